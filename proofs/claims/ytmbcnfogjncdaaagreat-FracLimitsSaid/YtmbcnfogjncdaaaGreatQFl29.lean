/- A part of the proofs about fractions. -/
import Derived.Test.YtmbcnfogjncdaaaGreatQFl1
import Derived.Test.YtmbcnfogjncdaaaGreatQFl22
import Derived.Test.YtmbcnfogjncdaaaGreatQFl25
import Derived.Test.YtmbcnfogjncdaaaGreatQFl28
set_option maxRecDepth 100000
set_option maxHeartbeats 8000000
namespace Go.Proofs.YtmbcnfogjncdaaaGreat
open Go.RowKit Wh
theorem frParse_wrong (s x y : ByteArray) (zn zd : Int) (s1 : Sz 256 zn) (s2 : Sz 256 zd) (hv : fvld (decide (zn < 0)) (dig zn.natAbs) (decide (zd < 0)) (dig zd.natAbs) = false) (w : World)
  (hc : ∀ W, Below w.heap.size w W → Calls Tryz.prog 87 #[.string s, .string ⟨#[47]⟩] W fun e w' => e = .returned (.tuple #[.string x, .string y, .bool true]) ∧ Below W.heap.size W w')
  (hn : ∀ W, Below w.heap.size w W → Calls Tryz.prog 16 #[.string x] W fun e w' => (∃ v, e = .returned (.tuple #[v, .int .i64 0]) ∧ Num w' v zn) ∧ Below W.heap.size W w')
  (hd : ∀ W, Below w.heap.size w W → Calls Tryz.prog 88 #[.string y] W fun e w' => (∃ v, e = .returned (.tuple #[v, .int .i64 0]) ∧ Num w' v zd) ∧ Below W.heap.size W w') :
  Calls Tryz.prog 26 #[.string s] w fun e w' => e = .returned (.tuple #[zeroF, .int .i64 21]) ∧ Below w.heap.size w w' := by
 have HC := Lib.hid hc
 have HN := Lib.hid hn
 have HD := Lib.hid hd
 have t1 := fun v W (h : Num W v zn) => tooLong_num v zn W h
 rw [show decide (256 < (dig zn.natAbs).length) = false from decide_eq_false (Nat.not_lt.2 s1)] at t1
 have HT1 := Lib.hid t1
 have t2 := fun v W (h : Num W v zd) => tooLong_num v zd W h
 rw [show decide (256 < (dig zd.natAbs).length) = false from decide_eq_false (Nat.not_lt.2 s2)] at t2
 have HT2 := Lib.hid t2
 have hvl := fun bn an kn cn bd ad kd cd W (h : Num W (.agg #[.bool bn, .slice an kn cn]) zn) (g : Num W (.agg #[.bool bd, .slice ad kd cd]) zd) => (show Calls Tryz.prog 90 #[.agg #[.bool bn, .slice an kn cn, .bool bd, .slice ad kd cd]] W fun e w' => e = .returned (.bool false) ∧ Below W.heap.size W w' from by have := frValid_raw bn an kn cn _ bd ad kd cd _ W (lim_of_num h).2 (dig_Lm _) (lim_of_num g).2 (dig_Lm _); rw [(lim_of_num h).1, (lim_of_num g).1, hv] at this; rw [(lim_of_num h).1, (lim_of_num g).1]; exact this)
 have HV := Lib.hid hvl
 have H1 := Lib.hid (fun W => FromInt_any 1 (by decide) (by decide) W)
 clear hc hn hd t1 t2 hvl hv s1 s2
 have hB := Below.refl w.heap.size w
 obtain ⟨al, xr, hN⟩ := mk hB #[.bool false, .slice none 0 0, .bool false, .slice none 0 0] 39
 replace hB := hN; clear al hN
 try simp only [World.size_alloc] at xr
 go_enter Tryz.func26, Tryz.ntmps26
 have pr := xr.all4
 go_wp2_with fail
 clear pr
 refine (HC.out _ hB).mono ?_
 rintro e w1 ⟨rfl, hb⟩
 replace xr := xr.on hb
 have hz1 := hb.size
 try simp at hz1
 replace hB := hB.trans (hb.mono hB.size); clear hb
 have pr := xr.all4
 go_wp2_with fail
 clear pr
 refine (HN.out _ hB).mono ?_
 rintro e w2 ⟨⟨v, rfl, gn⟩, hb⟩
 obtain ⟨b1, a1, k1, c1, rfl⟩ := gn.opened
 replace xr := xr.on hb
 have hz2 := hb.size
 try simp at hz2
 replace hB := hB.trans (hb.mono hB.size); clear hb
 obtain ⟨al, xn, hN⟩ := mk hB #[.bool b1, .slice a1 k1 c1] 24
 replace xr := xr.on al; replace gn := gn.on al; replace hB := hN; clear al hN
 try simp only [World.size_alloc] at xn
 have pr := xr.all4
 have pn := xn.all2
 go_wp2_with fail
 clear pr pn
 refine (H1.out _).mono ?_
 rintro e w3 ⟨⟨v3, rfl, g1⟩, hb⟩
 obtain ⟨b2, a2, k2, c2, rfl⟩ := g1.num.opened
 clear g1; replace xr := xr.on hb; replace xn := xn.on hb; replace gn := gn.on hb
 have hz3 := hb.size
 try simp at hz3
 replace hB := hB.trans (hb.mono hB.size); clear hb
 obtain ⟨al, xd, hN⟩ := mk hB #[.bool b2, .slice a2 k2 c2] 24
 replace xr := xr.on al; replace xn := xn.on al; replace gn := gn.on al; replace hB := hN; clear al hN
 try simp only [World.size_alloc] at xd
 have pr := xr.all4
 have pn := xn.all2
 have pd := xd.all2
 go_wp2_with fail
 clear pr pn pd
 refine (HD.out _ hB).mono ?_
 rintro e w4 ⟨⟨v4, rfl, gd⟩, hb⟩
 obtain ⟨b3, a3, k3, c3, rfl⟩ := gd.opened
 replace xr := xr.on hb; replace xn := xn.on hb; replace xd := xd.on hb; replace gn := gn.on hb
 have hz4 := hb.size
 try simp at hz4
 replace hB := hB.trans (hb.mono hB.size); clear hb
 have pr := xr.all4
 have pn := xn.all2
 have pd := xd.all2
 have hne : w3.heap.size ≠ w2.heap.size := by omega
 have hne2 : w3.heap.size ≠ w.heap.size := by omega
 go_wp2_with fail
 clear pr pn pd; replace gn := gn.setB xd rfl 0 (.bool b3); replace gd := gd.setB xd rfl 0 (.bool b3); replace xr := xr.put_other w3.heap.size 0 (.bool b3) (by omega); replace xn := xn.put_other w3.heap.size 0 (.bool b3) (by omega)
 replace xd : Bk _ w3.heap.size #[.bool b3, .slice a2 k2 c2] _ := xd.put 0 (.bool b3)
 replace hB := hB.setCell (p := ⟨w3.heap.size, 0, none⟩) (by first | omega | (simp; omega) | simp) (.bool b3); replace gn := gn.setB xd rfl 1 (.slice a3 k3 c3); replace gd := gd.setB xd rfl 1 (.slice a3 k3 c3); replace xr := xr.put_other w3.heap.size 1 (.slice a3 k3 c3) (by omega); replace xn := xn.put_other w3.heap.size 1 (.slice a3 k3 c3) (by omega)
 replace xd : Bk _ w3.heap.size #[.bool b3, .slice a3 k3 c3] _ := xd.put 1 (.slice a3 k3 c3)
 replace hB := hB.setCell (p := ⟨w3.heap.size, 1, none⟩) (by first | omega | (simp; omega) | simp) (.slice a3 k3 c3)
 obtain ⟨w5, hw5⟩ : ∃ W, W = ((w4.setCell ⟨w3.heap.size, 0, none⟩ (.bool b3)).setCell ⟨w3.heap.size, 1, none⟩ (.slice a3 k3 c3)) := ⟨_, rfl⟩
 have hz5 : w4.heap.size = w5.heap.size := by rw [hw5]; simp
 rw [← hw5] at hB xr xn xd gn gd ⊢
 clear hw5
 refine (HT1.out _ _ gn).mono ?_
 rintro e w6 ⟨rfl, hb⟩
 replace xr := xr.on hb; replace xn := xn.on hb; replace xd := xd.on hb; replace gn := gn.on hb; replace gd := gd.on hb
 have hz6 := hb.size
 try simp at hz6
 replace hB := hB.trans (hb.mono hB.size); clear hb
 have pr := xr.all4
 have pn := xn.all2
 have pd := xd.all2
 go_wp2_with fail
 clear pr pn pd
 refine (HT2.out _ _ gd).mono ?_
 rintro e w7 ⟨rfl, hb⟩
 replace xr := xr.on hb; replace xn := xn.on hb; replace xd := xd.on hb; replace gn := gn.on hb; replace gd := gd.on hb
 have hz7 := hb.size
 try simp at hz7
 replace hB := hB.trans (hb.mono hB.size); clear hb
 have pr := xr.all4
 have pn := xn.all2
 have pd := xd.all2
 go_wp2_with fail
 clear pr pn pd
 obtain ⟨al, xa, hN⟩ := mk hB #[.bool b1, .slice a1 k1 c1, .bool b3, .slice a3 k3 c3] 39
 replace xr := xr.on al; replace xn := xn.on al; replace xd := xd.on al; replace gn := gn.on al; replace gd := gd.on al; replace hB := hN; clear al hN
 try simp only [World.size_alloc] at xa
 refine (HV.out _ _ _ _ _ _ _ _ _ gn gd).mono ?_
 rintro e w8 ⟨rfl, hb⟩
 replace xr := xr.on hb; replace xn := xn.on hb; replace xd := xd.on hb; replace xa := xa.on hb; replace gn := gn.on hb; replace gd := gd.on hb
 have hz8 := hb.size
 try simp at hz8
 replace hB := hB.trans (hb.mono hB.size); clear hb xn xd
 have pr := xr.all4
 have pa := xa.all4
 go_wp2_with fail
 clear pr pa xa gn gd; replace xr := xr.put4 (.bool false) (.slice none 0 0) (.bool false) (.slice none 0 0); replace hB := below4 hB w.heap.size (by first | omega | (simp; omega) | simp) (.bool false) (.slice none 0 0) (.bool false) (.slice none 0 0)
 generalize ((((w8.setCell ⟨w.heap.size, 0, none⟩ (.bool false)).setCell ⟨w.heap.size, 1, none⟩ (.slice none 0 0)).setCell ⟨w.heap.size, 2, none⟩ (.bool false)).setCell ⟨w.heap.size, 3, none⟩ (.slice none 0 0)) = WF at *
 have pr := xr.all4
 exact bodyPost_ret (v := .tuple #[.agg #[.bool false, .slice none 0 0, .bool false, .slice none 0 0], .int .i64 21]) (by simp [results, Tryz.results26, go_sem, pr]) rfl ⟨rfl, hB⟩
end Go.Proofs.YtmbcnfogjncdaaaGreat
namespace Go.Proofs.YtmbcnfogjncdaaaGreat
open Go.RowKit Wh
theorem Parse_digit (x : ByteArray) (c : UInt8) (z : Int) (hx : x.data.toList = [c]) (hw : twf [c] = true) (hv : tval [c] = z) (hd : (dig (dv (tds [c]))).length ≤ 1024) (W : World) :
  Calls Tryz.prog 16 #[.string x] W fun e w' => (∃ v, e = .returned (.tuple #[v, .int .i64 0]) ∧ Num w' v z) ∧ Below W.heap.size W w' :=
 (Parse_known x [c] z hx (by simp) hw hv hd W).mono fun _ _ ⟨⟨_, _, _, _, he, hn⟩, hb⟩ => ⟨⟨_, he, hn⟩, hb⟩
theorem two_digits (s : ByteArray) (c d : UInt8) (zn zd : Int) (hs : s = ⟨#[c, 47, d]⟩) (hc47 : c ≠ 47) (hn : twf [c] = true ∧ tval [c] = zn ∧ (dig (dv (tds [c]))).length ≤ 1024) (hd : twf [d] = true ∧ tval [d] = zd ∧ (dig (dv (tds [d]))).length ≤ 1024) (hd45 : d ≠ 45) (z0 : zd ≠ 0) (z1 : zd ≠ 1) (s1 : Sz 256 zn) (s2 : Sz 256 zd)
    (hv : fvld (decide (zn < 0)) (dig zn.natAbs) (decide (zd < 0)) (dig zd.natAbs) = false) (w : World) :
    Calls Tryz.prog 26 #[.string s] w fun e w' => e = .returned (.tuple #[zeroF, .int .i64 21]) ∧ Below w.heap.size w w' := by
  have e0 : s.data.toList = [c, 47, d] := by rw [hs]
  have esz : s.size = 3 := by rw [hs]; rfl
  have ex : (s.extract 0 1).data.toList = [c] := by rw [hs]; rfl
  have ey : (s.extract (1 + 1) s.size).data.toList = [d] := by rw [hs]; rfl
  have ei : Lib.indexByte s.data.toList 47 = ((1 : Nat) : Int) := by
    rw [e0]
    have h1 : (c == 47) = false := by simpa using hc47
    simp [Lib.indexByte, h1]
  refine frParse_wrong s (s.extract 0 1) (s.extract (1 + 1) s.size) zn zd s1 s2 hv w (fun W _ => ?_) (fun W _ => ?_) (fun W _ => ?_)
  · exact Cut_of s ⟨#[47]⟩ _ _ true W (fun W' => slCut_at s 47 1 ei (by omega) (by unfold maxLen; omega) W')
  · exact Parse_digit _ c zn ex hn.1 hn.2.1 hn.2.2 W
  · refine pden_ok _ W ?_ zd ⟨z0, z1⟩ (fun W' _ => Parse_digit _ d zd ey hd.1 hd.2.1 hd.2.2 W')
    rw [ey]
    have h1 : (45 == d) = false := by simpa using Ne.symm hd45
    simp [Lib.hasPrefix, List.isPrefixOf, h1]
theorem Parse_24 (w : World) : Calls Tryz.prog 26 #[.string ⟨#[50, 47, 52]⟩] w fun e w' => e = .returned (.tuple #[zeroF, .int .i64 21]) ∧ Below w.heap.size w w' :=
 two_digits _ 50 52 2 4 rfl (by decide) ⟨by decide, by decide, by decide +kernel⟩ ⟨by decide, by decide, by decide +kernel⟩ (by decide) (by decide) (by decide) ((Sz.small (z := 2) (by decide)).mono (by decide)) ((Sz.small (z := 4) (by decide)).mono (by decide)) (by decide +kernel) w
theorem Parse_02 (w : World) : Calls Tryz.prog 26 #[.string ⟨#[48, 47, 50]⟩] w fun e w' => e = .returned (.tuple #[zeroF, .int .i64 21]) ∧ Below w.heap.size w w' :=
 two_digits _ 48 50 0 2 rfl (by decide) ⟨by decide, by decide, by decide +kernel⟩ ⟨by decide, by decide, by decide +kernel⟩ (by decide) (by decide) (by decide) ((Sz.small (z := 0) (by decide)).mono (by decide)) ((Sz.small (z := 2) (by decide)).mono (by decide)) (by decide +kernel) w
end Go.Proofs.YtmbcnfogjncdaaaGreat
namespace Go.Proofs.YtmbcnfogjncdaaaGreat
open Go.RowKit Wh
theorem rounds_lit (va : Value) (q r0 r1 r2 r3 r4 r5 : Rat) (z0 z1 z2 z3 z4 z5 : Int) (hq : Fz 256 256 q) (hr0 : rnd q 1 1 = r0) (hf0 : Fz 256 256 r0) (hz0 : r0 = Rat.divInt z0 1) (hb0 : -9223372036854775808 ≤ z0 ∧ z0 ≤ 9223372036854775807) (hr1 : rnd q 1 2 = r1) (hf1 : Fz 256 256 r1) (hz1 : r1 = Rat.divInt z1 1) (hb1 : -9223372036854775808 ≤ z1 ∧ z1 ≤ 9223372036854775807) (hr2 : rnd q 1 3 = r2) (hf2 : Fz 256 256 r2) (hz2 : r2 = Rat.divInt z2 1) (hb2 : -9223372036854775808 ≤ z2 ∧ z2 ≤ 9223372036854775807) (hr3 : rnd q 1 4 = r3) (hf3 : Fz 256 256 r3) (hz3 : r3 = Rat.divInt z3 1) (hb3 : -9223372036854775808 ≤ z3 ∧ z3 ≤ 9223372036854775807) (hr4 : rnd q 1 5 = r4) (hf4 : Fz 256 256 r4) (hz4 : r4 = Rat.divInt z4 1) (hb4 : -9223372036854775808 ≤ z4 ∧ z4 ≤ 9223372036854775807) (hr5 : rnd q 1 6 = r5) (hf5 : Fz 256 256 r5) (hz5 : r5 = Rat.divInt z5 1) (hb5 : -9223372036854775808 ≤ z5 ∧ z5 ≤ 9223372036854775807) (w : World) (h : Fra w va q) :
  Calls Tryz.prog 81 #[va, .agg #[.int .i64 z0, .int .i64 z1, .int .i64 z2, .int .i64 z3, .int .i64 z4, .int .i64 z5]] w fun e w' => e = .returned (.bool true) ∧ Below w.heap.size w w' := by
 obtain ⟨b, a, k, c, b', a', k', c', rfl⟩ := h.opened
 exact rounds_any b a k c b' a' k' c' q r0 r1 r2 r3 r4 r5 z0 z1 z2 z3 z4 z5 hq hr0 hf0 hz0 hb0 hr1 hf1 hz1 hb1 hr2 hf2 hz2 hb2 hr3 hf3 hz3 hb3 hr4 hf4 hz4 hb4 hr5 hf5 hz5 hb5 w h
theorem Parse_24z (w : World) : Calls Tryz.prog 26 #[.string ⟨#[50, 47, 52]⟩] w fun e w' => e = .returned (.tuple #[.agg #[.bool false, .slice none 0 0, .bool false, .slice none 0 0], .int .i64 21]) ∧ Below w.heap.size w w' := Parse_24 w
theorem Parse_02z (w : World) : Calls Tryz.prog 26 #[.string ⟨#[48, 47, 50]⟩] w fun e w' => e = .returned (.tuple #[.agg #[.bool false, .slice none 0 0, .bool false, .slice none 0 0], .int .i64 21]) ∧ Below w.heap.size w w' := Parse_02 w
theorem law2_awake_any (w : World) : Calls Tryz.prog 23 #[] w fun e w' => e = .returned (.bool true) ∧ Below w.heap.size w w' := by
 have HN4 := Lib.hid (fun W => refFromInt_num 4 (by decide) (by decide) W)
 have HN6 := Lib.hid (fun W => refFromInt_num (-6) (by decide) (by decide) W)
 have HN1 := Lib.hid (fun W => refFromInt_num (-1) (by decide) (by decide) W)
 have HM := Lib.hid (fun va vb W h g => frMake_lit va vb 4 (-6) (Rat.divInt (-2) 3) (by decide +kernel) ((Sz.small (z := 4) (by decide)).mono (by decide)) ((Sz.small (z := -6) (by decide)).mono (by decide)) (by decide) ((Fz.small (Rat.divInt (-2) 3) (by decide +kernel) (by decide +kernel)).mono (by decide) (by decide)) W h g)
 have HA := Lib.hid (fun va vb W h g => frAdd_lit va vb (Rat.divInt (1) 6) (Rat.divInt (1) 3) (Rat.divInt (1) 2) (by decide +kernel) ((Fz.small (Rat.divInt (1) 6) (by decide +kernel) (by decide +kernel)).mono (by decide) (by decide)) ((Fz.small (Rat.divInt (1) 3) (by decide +kernel) (by decide +kernel)).mono (by decide) (by decide)) ((Fz.small (Rat.divInt (1) 2) (by decide +kernel) (by decide +kernel)).mono (by decide) (by decide)) W h g)
 have HP := Lib.hid (fun va W h => frPow_lit va (Rat.divInt (-2) 3) (Rat.divInt (-27) 8) (-3) (by decide +kernel) (by decide) (by decide) (.inl (by decide +kernel)) ((Fz.small (Rat.divInt (-2) 3) (by decide +kernel) (by decide +kernel)).mono (by decide) (by decide)) ((Fz.small (Rat.divInt (-27) 8) (by decide +kernel) (by decide +kernel)).mono (by decide) (by decide)) W h)
 have HF := Lib.hid (fun va W h => frFloor_lit va (Rat.divInt (-1) 2) (-1) (by decide +kernel) ((Fz.small (Rat.divInt (-1) 2) (by decide +kernel) (by decide +kernel)).mono (by decide) (by decide)) W h)
 have HC := Lib.hid (fun va W h => frCeil_lit va (Rat.divInt (-1) 2) 0 (by decide +kernel) ((Fz.small (Rat.divInt (-1) 2) (by decide +kernel) (by decide +kernel)).mono (by decide) (by decide)) W h)
 have HR := Lib.hid (fun va vb W h g => frRound_lit va vb (Rat.divInt (1) 1) (Rat.divInt (3) 10) (Rat.divInt (9) 10) 5 5 rfl (by decide +kernel) (by decide) (by decide) ((Fz.small (Rat.divInt (1) 1) (by decide +kernel) (by decide +kernel)).mono (by decide) (by decide)) ((Fz.small (Rat.divInt (3) 10) (by decide +kernel) (by decide +kernel)).mono (by decide) (by decide)) (by decide +kernel) ((Fz.small (Rat.divInt (9) 10) (by decide +kernel) (by decide +kernel)).mono (by decide) (by decide)) W h g)
 have HI1 := Lib.hid (fun va W h => is_lit va (Rat.divInt (-2) 3) (-2) 3 rfl (by decide) (by decide) (by decide) (by decide) W h)
 have HI3 := Lib.hid (fun va W h => is_lit va (Rat.divInt (1) 2) 1 2 rfl (by decide) (by decide) (by decide) (by decide) W h)
 have HI5 := Lib.hid (fun va W h => is_lit va (Rat.divInt (-27) 8) (-27) 8 rfl (by decide) (by decide) (by decide) (by decide) W h)
 have HI11 := Lib.hid (fun va W h => is_lit va (Rat.divInt (9) 10) 9 10 rfl (by decide) (by decide) (by decide) (by decide) W h)
 have HS := Lib.hid (fun va vb W h g => refSame_lit va vb (-1) (-1) true (by decide) W h g)
 have HRa := Lib.hid (fun va W h => rounds_lit va (Rat.divInt (7) 2) (Rat.divInt (3) 1) (Rat.divInt (4) 1) (Rat.divInt (3) 1) (Rat.divInt (4) 1) (Rat.divInt (4) 1) (Rat.divInt (4) 1) (3) (4) (3) (4) (4) (4) ((Fz.small (Rat.divInt (7) 2) (by decide +kernel) (by decide +kernel)).mono (by decide) (by decide)) (by decide +kernel) ((Fz.small (Rat.divInt (3) 1) (by decide +kernel) (by decide +kernel)).mono (by decide) (by decide)) rfl (by decide) (by decide +kernel) ((Fz.small (Rat.divInt (4) 1) (by decide +kernel) (by decide +kernel)).mono (by decide) (by decide)) rfl (by decide) (by decide +kernel) ((Fz.small (Rat.divInt (3) 1) (by decide +kernel) (by decide +kernel)).mono (by decide) (by decide)) rfl (by decide) (by decide +kernel) ((Fz.small (Rat.divInt (4) 1) (by decide +kernel) (by decide +kernel)).mono (by decide) (by decide)) rfl (by decide) (by decide +kernel) ((Fz.small (Rat.divInt (4) 1) (by decide +kernel) (by decide +kernel)).mono (by decide) (by decide)) rfl (by decide) (by decide +kernel) ((Fz.small (Rat.divInt (4) 1) (by decide +kernel) (by decide +kernel)).mono (by decide) (by decide)) rfl (by decide) W h)
 have HRb := Lib.hid (fun va W h => rounds_lit va (Rat.divInt (-5) 2) (Rat.divInt (-2) 1) (Rat.divInt (-3) 1) (Rat.divInt (-3) 1) (Rat.divInt (-2) 1) (Rat.divInt (-3) 1) (Rat.divInt (-2) 1) (-2) (-3) (-3) (-2) (-3) (-2) ((Fz.small (Rat.divInt (-5) 2) (by decide +kernel) (by decide +kernel)).mono (by decide) (by decide)) (by decide +kernel) ((Fz.small (Rat.divInt (-2) 1) (by decide +kernel) (by decide +kernel)).mono (by decide) (by decide)) rfl (by decide) (by decide +kernel) ((Fz.small (Rat.divInt (-3) 1) (by decide +kernel) (by decide +kernel)).mono (by decide) (by decide)) rfl (by decide) (by decide +kernel) ((Fz.small (Rat.divInt (-3) 1) (by decide +kernel) (by decide +kernel)).mono (by decide) (by decide)) rfl (by decide) (by decide +kernel) ((Fz.small (Rat.divInt (-2) 1) (by decide +kernel) (by decide +kernel)).mono (by decide) (by decide)) rfl (by decide) (by decide +kernel) ((Fz.small (Rat.divInt (-3) 1) (by decide +kernel) (by decide +kernel)).mono (by decide) (by decide)) rfl (by decide) (by decide +kernel) ((Fz.small (Rat.divInt (-2) 1) (by decide +kernel) (by decide +kernel)).mono (by decide) (by decide)) rfl (by decide) W h)
 have HQ0 := Lib.hid (fun W => quick_lit (1) 6 (Rat.divInt (1) 6) rfl (by decide) (by decide) (by decide) (by decide) W)
 have HQ1 := Lib.hid (fun W => quick_lit (1) 3 (Rat.divInt (1) 3) rfl (by decide) (by decide) (by decide) (by decide) W)
 have HQ2 := Lib.hid (fun W => quick_lit (-2) 3 (Rat.divInt (-2) 3) rfl (by decide) (by decide) (by decide) (by decide) W)
 have HQ3 := Lib.hid (fun W => quick_lit (-1) 2 (Rat.divInt (-1) 2) rfl (by decide) (by decide) (by decide) (by decide) W)
 have HQ4 := Lib.hid (fun W => quick_lit (1) 1 (Rat.divInt (1) 1) rfl (by decide) (by decide) (by decide) (by decide) W)
 have HQ5 := Lib.hid (fun W => quick_lit (3) 10 (Rat.divInt (3) 10) rfl (by decide) (by decide) (by decide) (by decide) W)
 have HP4 := Lib.hid Parse_24z
 have HP2 := Lib.hid Parse_02z
 have HQ6 := Lib.hid (fun W => quick_lit (7) 2 (Rat.divInt (7) 2) rfl (by decide) (by decide) (by decide) (by decide) W)
 have HQ7 := Lib.hid (fun W => quick_lit (-5) 2 (Rat.divInt (-5) 2) rfl (by decide) (by decide) (by decide) (by decide) W)
 have hB := Below.refl w.heap.size w
 go_enter Tryz.func23, Tryz.ntmps23
 go_wp2_with fail
 refine (HN4.out _).mono ?_
 rintro e w1 ⟨⟨va, rfl, n1⟩, hb⟩
 have hz1 := hb.size
 try simp at hz1
 replace hB := hB.trans (hb.mono hB.size); clear hb
 go_wp2_with fail
 refine (HN6.out _).mono ?_
 rintro e w2 ⟨⟨vb, rfl, n2⟩, hb⟩
 replace n1 := n1.on hb
 have hz2 := hb.size
 try simp at hz2
 replace hB := hB.trans (hb.mono hB.size); clear hb
 go_wp2_with fail
 refine (HM.out _ _ _ n1 n2).mono ?_
 rintro e w3 ⟨⟨v, rfl, f1⟩, hb⟩
 obtain ⟨by1, ay1, ky1, cy1, dy1, ey1, ly1, my1, rfl⟩ := f1.opened
 replace n1 := n1.on hb; replace n2 := n2.on hb
 have hz3 := hb.size
 try simp at hz3
 replace hB := hB.trans (hb.mono hB.size); clear hb n1 n2
 go_wp2_with fail
 have hb := ((Below.refl w3.heap.size w3).alloc (Nat.le_refl _) (.cells #[.bool by1, .slice ay1 ky1 cy1, .bool dy1, .slice ey1 ly1 my1] 39))
 have xb1 : Bk _ w3.heap.size #[.bool by1, .slice ay1 ky1 cy1, .bool dy1, .slice ey1 ly1 my1] 39 := (Bk.new w3 #[.bool by1, .slice ay1 ky1 cy1, .bool dy1, .slice ey1 ly1 my1] 39)
 replace f1 := f1.on hb; replace hB := hB.trans (hb.mono hB.size); clear hb
 obtain ⟨qb1, hqb1⟩ : ∃ W, W = (w3.alloc (.cells #[.bool by1, .slice ay1 ky1 cy1, .bool dy1, .slice ey1 ly1 my1] 39)) := ⟨_, rfl⟩
 rw [← hqb1] at hB xb1 f1 ⊢
 clear hqb1
 refine (HQ0.out _).mono ?_
 rintro e w4 ⟨⟨va, rfl, n1⟩, hb⟩
 replace xb1 := xb1.on hb; replace f1 := f1.on hb
 have hz4 := hb.size
 try simp at hz4
 replace hB := hB.trans (hb.mono hB.size); clear hb
 go_wp2_with fail
 refine (HQ1.out _).mono ?_
 rintro e w5 ⟨⟨vb, rfl, n2⟩, hb⟩
 replace xb1 := xb1.on hb; replace f1 := f1.on hb; replace n1 := n1.on hb
 have hz5 := hb.size
 try simp at hz5
 replace hB := hB.trans (hb.mono hB.size); clear hb
 go_wp2_with fail
 refine (HA.out _ _ _ n1 n2).mono ?_
 rintro e w6 ⟨⟨v, rfl, f3⟩, hb⟩
 obtain ⟨by3, ay3, ky3, cy3, dy3, ey3, ly3, my3, rfl⟩ := f3.opened
 replace xb1 := xb1.on hb; replace f1 := f1.on hb; replace n1 := n1.on hb; replace n2 := n2.on hb
 have hz6 := hb.size
 try simp at hz6
 replace hB := hB.trans (hb.mono hB.size); clear hb n1 n2
 go_wp2_with fail
 have hb := ((Below.refl w6.heap.size w6).alloc (Nat.le_refl _) (.cells #[.bool by3, .slice ay3 ky3 cy3, .bool dy3, .slice ey3 ly3 my3] 39))
 have xb3 : Bk _ w6.heap.size #[.bool by3, .slice ay3 ky3 cy3, .bool dy3, .slice ey3 ly3 my3] 39 := (Bk.new w6 #[.bool by3, .slice ay3 ky3 cy3, .bool dy3, .slice ey3 ly3 my3] 39)
 replace xb1 := xb1.on hb; replace f1 := f1.on hb; replace f3 := f3.on hb; replace hB := hB.trans (hb.mono hB.size); clear hb
 obtain ⟨qb3, hqb3⟩ : ∃ W, W = (w6.alloc (.cells #[.bool by3, .slice ay3 ky3 cy3, .bool dy3, .slice ey3 ly3 my3] 39)) := ⟨_, rfl⟩
 rw [← hqb3] at hB xb1 xb3 f1 f3 ⊢
 clear hqb3
 refine (HQ2.out _).mono ?_
 rintro e w7 ⟨⟨va, rfl, n1⟩, hb⟩
 replace xb1 := xb1.on hb; replace xb3 := xb3.on hb; replace f1 := f1.on hb; replace f3 := f3.on hb
 have hz7 := hb.size
 try simp at hz7
 replace hB := hB.trans (hb.mono hB.size); clear hb
 go_wp2_with fail
 refine (HP.out _ _ n1).mono ?_
 rintro e w8 ⟨⟨v, rfl, f5⟩, hb⟩
 obtain ⟨by5, ay5, ky5, cy5, dy5, ey5, ly5, my5, rfl⟩ := f5.opened
 replace xb1 := xb1.on hb; replace xb3 := xb3.on hb; replace f1 := f1.on hb; replace f3 := f3.on hb; replace n1 := n1.on hb
 have hz8 := hb.size
 try simp at hz8
 replace hB := hB.trans (hb.mono hB.size); clear hb n1
 go_wp2_with fail
 have hb := ((Below.refl w8.heap.size w8).alloc (Nat.le_refl _) (.cells #[.bool by5, .slice ay5 ky5 cy5, .bool dy5, .slice ey5 ly5 my5] 39))
 have xb5 : Bk _ w8.heap.size #[.bool by5, .slice ay5 ky5 cy5, .bool dy5, .slice ey5 ly5 my5] 39 := (Bk.new w8 #[.bool by5, .slice ay5 ky5 cy5, .bool dy5, .slice ey5 ly5 my5] 39)
 replace xb1 := xb1.on hb; replace xb3 := xb3.on hb; replace f1 := f1.on hb; replace f3 := f3.on hb; replace f5 := f5.on hb; replace hB := hB.trans (hb.mono hB.size); clear hb
 obtain ⟨qb5, hqb5⟩ : ∃ W, W = (w8.alloc (.cells #[.bool by5, .slice ay5 ky5 cy5, .bool dy5, .slice ey5 ly5 my5] 39)) := ⟨_, rfl⟩
 rw [← hqb5] at hB xb1 xb3 xb5 f1 f3 f5 ⊢
 clear hqb5
 refine (HQ3.out _).mono ?_
 rintro e w9 ⟨⟨va, rfl, n1⟩, hb⟩
 replace xb1 := xb1.on hb; replace xb3 := xb3.on hb; replace xb5 := xb5.on hb; replace f1 := f1.on hb; replace f3 := f3.on hb; replace f5 := f5.on hb
 have hz9 := hb.size
 try simp at hz9
 replace hB := hB.trans (hb.mono hB.size); clear hb
 go_wp2_with fail
 refine (HF.out _ _ n1).mono ?_
 rintro e w10 ⟨⟨v, rfl, f7⟩, hb⟩
 obtain ⟨bY7, ay7, ky7, cy7, rfl⟩ := f7.opened
 replace xb1 := xb1.on hb; replace xb3 := xb3.on hb; replace xb5 := xb5.on hb; replace f1 := f1.on hb; replace f3 := f3.on hb; replace f5 := f5.on hb; replace n1 := n1.on hb
 have hz10 := hb.size
 try simp at hz10
 replace hB := hB.trans (hb.mono hB.size); clear hb n1
 go_wp2_with fail
 have hb := ((Below.refl w10.heap.size w10).alloc (Nat.le_refl _) (.cells #[.bool bY7, .slice ay7 ky7 cy7] 24))
 have xb7 : Bk _ w10.heap.size #[.bool bY7, .slice ay7 ky7 cy7] 24 := (Bk.new w10 #[.bool bY7, .slice ay7 ky7 cy7] 24)
 replace xb1 := xb1.on hb; replace xb3 := xb3.on hb; replace xb5 := xb5.on hb; replace f1 := f1.on hb; replace f3 := f3.on hb; replace f5 := f5.on hb; replace f7 := f7.on hb; replace hB := hB.trans (hb.mono hB.size); clear hb
 obtain ⟨qb7, hqb7⟩ : ∃ W, W = (w10.alloc (.cells #[.bool bY7, .slice ay7 ky7 cy7] 24)) := ⟨_, rfl⟩
 rw [← hqb7] at hB xb1 xb3 xb5 xb7 f1 f3 f5 f7 ⊢
 clear hqb7
 refine (HQ3.out _).mono ?_
 rintro e w11 ⟨⟨va, rfl, n1⟩, hb⟩
 replace xb1 := xb1.on hb; replace xb3 := xb3.on hb; replace xb5 := xb5.on hb; replace xb7 := xb7.on hb; replace f1 := f1.on hb; replace f3 := f3.on hb; replace f5 := f5.on hb; replace f7 := f7.on hb
 have hz11 := hb.size
 try simp at hz11
 replace hB := hB.trans (hb.mono hB.size); clear hb
 go_wp2_with fail
 refine (HC.out _ _ n1).mono ?_
 rintro e w12 ⟨⟨v, rfl, f9⟩, hb⟩
 obtain ⟨bY9, ay9, ky9, cy9, rfl⟩ := f9.opened
 have hk9 := (num_len f9).1
 rw [show (0 : Int).natAbs = 0 from rfl, dig_zero] at hk9
 simp only [List.length_nil] at hk9
 subst hk9
 clear f9; replace xb1 := xb1.on hb; replace xb3 := xb3.on hb; replace xb5 := xb5.on hb; replace xb7 := xb7.on hb; replace f1 := f1.on hb; replace f3 := f3.on hb; replace f5 := f5.on hb; replace f7 := f7.on hb; replace n1 := n1.on hb
 have hz12 := hb.size
 try simp at hz12
 replace hB := hB.trans (hb.mono hB.size); clear hb n1
 go_wp2_with fail
 have hb := ((Below.refl w12.heap.size w12).alloc (Nat.le_refl _) (.cells #[.bool bY9, .slice ay9 0 cy9] 24))
 have xb9 : Bk _ w12.heap.size #[.bool bY9, .slice ay9 0 cy9] 24 := (Bk.new w12 #[.bool bY9, .slice ay9 0 cy9] 24)
 replace xb1 := xb1.on hb; replace xb3 := xb3.on hb; replace xb5 := xb5.on hb; replace xb7 := xb7.on hb; replace f1 := f1.on hb; replace f3 := f3.on hb; replace f5 := f5.on hb; replace f7 := f7.on hb; replace hB := hB.trans (hb.mono hB.size); clear hb
 obtain ⟨qb9, hqb9⟩ : ∃ W, W = (w12.alloc (.cells #[.bool bY9, .slice ay9 0 cy9] 24)) := ⟨_, rfl⟩
 rw [← hqb9] at hB xb1 xb3 xb5 xb7 xb9 f1 f3 f5 f7 ⊢
 clear hqb9
 refine (HQ4.out _).mono ?_
 rintro e w13 ⟨⟨va, rfl, n1⟩, hb⟩
 replace xb1 := xb1.on hb; replace xb3 := xb3.on hb; replace xb5 := xb5.on hb; replace xb7 := xb7.on hb; replace xb9 := xb9.on hb; replace f1 := f1.on hb; replace f3 := f3.on hb; replace f5 := f5.on hb; replace f7 := f7.on hb
 have hz13 := hb.size
 try simp at hz13
 replace hB := hB.trans (hb.mono hB.size); clear hb
 go_wp2_with fail
 refine (HQ5.out _).mono ?_
 rintro e w14 ⟨⟨vb, rfl, n2⟩, hb⟩
 replace xb1 := xb1.on hb; replace xb3 := xb3.on hb; replace xb5 := xb5.on hb; replace xb7 := xb7.on hb; replace xb9 := xb9.on hb; replace f1 := f1.on hb; replace f3 := f3.on hb; replace f5 := f5.on hb; replace f7 := f7.on hb; replace n1 := n1.on hb
 have hz14 := hb.size
 try simp at hz14
 replace hB := hB.trans (hb.mono hB.size); clear hb
 go_wp2_with fail
 refine (HR.out _ _ _ n1 n2).mono ?_
 rintro e w15 ⟨⟨v, rfl, f11⟩, hb⟩
 obtain ⟨by11, ay11, ky11, cy11, dy11, ey11, ly11, my11, rfl⟩ := f11.opened
 replace xb1 := xb1.on hb; replace xb3 := xb3.on hb; replace xb5 := xb5.on hb; replace xb7 := xb7.on hb; replace xb9 := xb9.on hb; replace f1 := f1.on hb; replace f3 := f3.on hb; replace f5 := f5.on hb; replace f7 := f7.on hb; replace n1 := n1.on hb; replace n2 := n2.on hb
 have hz15 := hb.size
 try simp at hz15
 replace hB := hB.trans (hb.mono hB.size); clear hb n1 n2
 go_wp2_with fail
 have hb := ((Below.refl w15.heap.size w15).alloc (Nat.le_refl _) (.cells #[.bool by11, .slice ay11 ky11 cy11, .bool dy11, .slice ey11 ly11 my11] 39))
 have xb11 : Bk _ w15.heap.size #[.bool by11, .slice ay11 ky11 cy11, .bool dy11, .slice ey11 ly11 my11] 39 := (Bk.new w15 #[.bool by11, .slice ay11 ky11 cy11, .bool dy11, .slice ey11 ly11 my11] 39)
 replace xb1 := xb1.on hb; replace xb3 := xb3.on hb; replace xb5 := xb5.on hb; replace xb7 := xb7.on hb; replace xb9 := xb9.on hb; replace f1 := f1.on hb; replace f3 := f3.on hb; replace f5 := f5.on hb; replace f7 := f7.on hb; replace f11 := f11.on hb; replace hB := hB.trans (hb.mono hB.size); clear hb
 obtain ⟨qb11, hqb11⟩ : ∃ W, W = (w15.alloc (.cells #[.bool by11, .slice ay11 ky11 cy11, .bool dy11, .slice ey11 ly11 my11] 39)) := ⟨_, rfl⟩
 rw [← hqb11] at hB xb1 xb3 xb5 xb7 xb9 xb11 f1 f3 f5 f7 f11 ⊢
 clear hqb11
 refine (HP4.out _).mono ?_
 rintro e w16 ⟨rfl, hb⟩
 replace xb1 := xb1.on hb; replace xb3 := xb3.on hb; replace xb5 := xb5.on hb; replace xb7 := xb7.on hb; replace xb9 := xb9.on hb; replace xb11 := xb11.on hb; replace f1 := f1.on hb; replace f3 := f3.on hb; replace f5 := f5.on hb; replace f7 := f7.on hb; replace f11 := f11.on hb
 have hz16 := hb.size
 try simp at hz16
 replace hB := hB.trans (hb.mono hB.size); clear hb
 go_wp2_with fail
 have hb := ((Below.refl w16.heap.size w16).alloc (Nat.le_refl _) (.cells #[.bool false, .slice none 0 0, .bool false, .slice none 0 0] 39))
 have xb13 : Bk _ w16.heap.size #[.bool false, .slice none 0 0, .bool false, .slice none 0 0] 39 := (Bk.new w16 #[.bool false, .slice none 0 0, .bool false, .slice none 0 0] 39)
 replace xb1 := xb1.on hb; replace xb3 := xb3.on hb; replace xb5 := xb5.on hb; replace xb7 := xb7.on hb; replace xb9 := xb9.on hb; replace xb11 := xb11.on hb; replace f1 := f1.on hb; replace f3 := f3.on hb; replace f5 := f5.on hb; replace f7 := f7.on hb; replace f11 := f11.on hb; replace hB := hB.trans (hb.mono hB.size); clear hb
 obtain ⟨qb13, hqb13⟩ : ∃ W, W = (w16.alloc (.cells #[.bool false, .slice none 0 0, .bool false, .slice none 0 0] 39)) := ⟨_, rfl⟩
 rw [← hqb13] at hB xb1 xb3 xb5 xb7 xb9 xb11 xb13 f1 f3 f5 f7 f11 ⊢
 clear hqb13 xb13
 refine (HP2.out _).mono ?_
 rintro e w17 ⟨rfl, hb⟩
 replace xb1 := xb1.on hb; replace xb3 := xb3.on hb; replace xb5 := xb5.on hb; replace xb7 := xb7.on hb; replace xb9 := xb9.on hb; replace xb11 := xb11.on hb; replace f1 := f1.on hb; replace f3 := f3.on hb; replace f5 := f5.on hb; replace f7 := f7.on hb; replace f11 := f11.on hb
 have hz17 := hb.size
 try simp at hz17
 replace hB := hB.trans (hb.mono hB.size); clear hb
 have pb1 := xb1.all4
 have pb3 := xb3.all4
 have pb5 := xb5.all4
 have pb7 := xb7.all2
 have pb9 := xb9.all2
 have pb11 := xb11.all4
 have ltb1 := xb1.lt
 have ltb3 := xb3.lt
 have ltb5 := xb5.lt
 have ltb7 := xb7.lt
 have ltb9 := xb9.lt
 have ltb11 := xb11.lt
 go_wp2_with fail
 clear ltb1 ltb3 ltb5 ltb7 ltb9 ltb11 pb1 pb3 pb5 pb7 pb9 pb11
 have hb := ((Below.refl w17.heap.size w17).alloc (Nat.le_refl _) (.cells #[.bool false, .slice none 0 0, .bool false, .slice none 0 0] 39))
 have xb15 : Bk _ w17.heap.size #[.bool false, .slice none 0 0, .bool false, .slice none 0 0] 39 := (Bk.new w17 #[.bool false, .slice none 0 0, .bool false, .slice none 0 0] 39)
 replace xb1 := xb1.on hb; replace xb3 := xb3.on hb; replace xb5 := xb5.on hb; replace xb7 := xb7.on hb; replace xb9 := xb9.on hb; replace xb11 := xb11.on hb; replace f1 := f1.on hb; replace f3 := f3.on hb; replace f5 := f5.on hb; replace f7 := f7.on hb; replace f11 := f11.on hb; replace hB := hB.trans (hb.mono hB.size); clear hb xb15
 obtain ⟨qb15, hqb15⟩ : ∃ W, W = (w17.alloc (.cells #[.bool false, .slice none 0 0, .bool false, .slice none 0 0] 39)) := ⟨_, rfl⟩
 rw [← hqb15] at hB xb1 xb3 xb5 xb7 xb9 xb11 f1 f3 f5 f7 f11 ⊢
 clear hqb15
 refine (HI1.out _ _ f1).mono ?_
 rintro e w18 ⟨rfl, hb⟩
 replace xb1 := xb1.on hb; replace xb3 := xb3.on hb; replace xb5 := xb5.on hb; replace xb7 := xb7.on hb; replace xb9 := xb9.on hb; replace xb11 := xb11.on hb; replace f1 := f1.on hb; replace f3 := f3.on hb; replace f5 := f5.on hb; replace f7 := f7.on hb; replace f11 := f11.on hb
 have hz18 := hb.size
 try simp at hz18
 replace hB := hB.trans (hb.mono hB.size); clear hb f1 xb1
 have pb3 := xb3.all4
 have pb5 := xb5.all4
 have pb7 := xb7.all2
 have pb9 := xb9.all2
 have pb11 := xb11.all4
 have ltb3 := xb3.lt
 have ltb5 := xb5.lt
 have ltb7 := xb7.lt
 have ltb9 := xb9.lt
 have ltb11 := xb11.lt
 go_wp2_with fail
 clear ltb3 ltb5 ltb7 ltb9 ltb11 pb3 pb5 pb7 pb9 pb11
 refine (HI3.out _ _ f3).mono ?_
 rintro e w19 ⟨rfl, hb⟩
 replace xb3 := xb3.on hb; replace xb5 := xb5.on hb; replace xb7 := xb7.on hb; replace xb9 := xb9.on hb; replace xb11 := xb11.on hb; replace f3 := f3.on hb; replace f5 := f5.on hb; replace f7 := f7.on hb; replace f11 := f11.on hb
 have hz19 := hb.size
 try simp at hz19
 replace hB := hB.trans (hb.mono hB.size); clear hb f3 xb3
 have pb5 := xb5.all4
 have pb7 := xb7.all2
 have pb9 := xb9.all2
 have pb11 := xb11.all4
 have ltb5 := xb5.lt
 have ltb7 := xb7.lt
 have ltb9 := xb9.lt
 have ltb11 := xb11.lt
 go_wp2_with fail
 clear ltb5 ltb7 ltb9 ltb11 pb5 pb7 pb9 pb11
 refine (HI5.out _ _ f5).mono ?_
 rintro e w20 ⟨rfl, hb⟩
 replace xb5 := xb5.on hb; replace xb7 := xb7.on hb; replace xb9 := xb9.on hb; replace xb11 := xb11.on hb; replace f5 := f5.on hb; replace f7 := f7.on hb; replace f11 := f11.on hb
 have hz20 := hb.size
 try simp at hz20
 replace hB := hB.trans (hb.mono hB.size); clear hb f5 xb5
 have pb7 := xb7.all2
 have pb9 := xb9.all2
 have pb11 := xb11.all4
 have ltb7 := xb7.lt
 have ltb9 := xb9.lt
 have ltb11 := xb11.lt
 go_wp2_with fail
 clear ltb7 ltb9 ltb11 pb7 pb9 pb11
 refine (HI11.out _ _ f11).mono ?_
 rintro e w21 ⟨rfl, hb⟩
 replace xb7 := xb7.on hb; replace xb9 := xb9.on hb; replace xb11 := xb11.on hb; replace f7 := f7.on hb; replace f11 := f11.on hb
 have hz21 := hb.size
 try simp at hz21
 replace hB := hB.trans (hb.mono hB.size); clear hb f11 xb11
 go_wp2_with fail
 obtain ⟨qz, hqz⟩ : ∃ W, W = w21 := ⟨_, rfl⟩
 rw [← hqz] at hB xb7 xb9 f7 ⊢
 clear hqz
 have qb7 := xb7.lt
 have qb9 := xb9.lt
 obtain ⟨gb70, gb71⟩ := xb7.cells2
 obtain ⟨gb90, gb91⟩ := xb9.cells2
 refine wp_region_noPanic ?_
 refine wp_region_held_drew (S := (fun w' => w'.cell? ⟨w10.heap.size, 0, none⟩ = some (.bool bY7) ∧ w'.cell? ⟨w10.heap.size, 1, none⟩ = some (.slice ay7 ky7 cy7) ∧ w'.cell? ⟨w12.heap.size, 0, none⟩ = some (.bool bY9) ∧ w'.cell? ⟨w12.heap.size, 1, none⟩ = some (.slice ay9 0 cy9))) (by kernel_rfl) ⟨gb70, gb71, gb90, gb91⟩ (fun hR0 => ?_)
 change wpAnyH _ _ _ _ _ 28 #[false, false, false, false, false, false, false, false, false, false, false, false, false, false, false, false, false, false, false, false, false, false, false, false, false, false, false, false] _ _
 clear gb70 gb71 gb90 gb91
 refine tz 0 ?_
 (try simp only [Act.put, sa, List.set])
 refine tz 1 ?_
 (try simp only [Act.put, sa, List.set])
 refine tz 2 ?_
 (try simp only [Act.put, sa, List.set])
 refine tz 3 ?_
 (try simp only [Act.put, sa, List.set])
 refine tz 4 ?_
 (try simp only [Act.put, sa, List.set])
 refine tz 5 ?_
 (try simp only [Act.put, sa, List.set])
 refine tz 6 ?_
 (try simp only [Act.put, sa, List.set])
 refine tz 7 ?_
 (try simp only [Act.put, sa, List.set])
 refine rz 8 fun K hK => ?_
 go_simp
 go_at_call 20; have hBd := hB.drew; refine (HN1.out _).mono ?_; rintro e w22 ⟨⟨vm, rfl, nm⟩, hb⟩; replace hb := (Below.refl qz.heap.size qz).drew.trans hb; replace xb7 := xb7.on hb; replace xb9 := xb9.on hb; replace f7 := f7.on hb; replace hB := hB.trans (hb.mono hB.size); have hz22 := hb.size
 (try go_wp2_with fail)
 refine hK.out _ _ (⟨(hb.cell (p := ⟨w10.heap.size, 0, none⟩) qb7).trans hR0.1, (hb.cell (p := ⟨w10.heap.size, 1, none⟩) qb7).trans hR0.2.1, (hb.cell (p := ⟨w12.heap.size, 0, none⟩) qb9).trans hR0.2.2.1, (hb.cell (p := ⟨w12.heap.size, 1, none⟩) qb9).trans hR0.2.2.2⟩) (fun hR1 => ?_)
 clear hK K hR0
 (try simp only [Act.put, sa, List.set])
 replace qb7 := Nat.lt_of_lt_of_le qb7 hz22; replace qb9 := Nat.lt_of_lt_of_le qb9 hz22; clear hb hBd
 refine rz 9 fun K hK => ?_
 go_simp
 go_at_call 10; have hBd := hB; refine (HS.out _ _ _ f7 nm).mono ?_; rintro e w23 ⟨rfl, hb⟩; replace xb7 := xb7.on hb; replace xb9 := xb9.on hb; replace f7 := f7.on hb; replace nm := nm.on hb; replace hB := hB.trans (hb.mono hB.size); have hz23 := hb.size
 (try go_wp2_with fail)
 refine hK.out _ _ (⟨(hb.cell (p := ⟨w10.heap.size, 0, none⟩) qb7).trans hR1.1, (hb.cell (p := ⟨w10.heap.size, 1, none⟩) qb7).trans hR1.2.1, (hb.cell (p := ⟨w12.heap.size, 0, none⟩) qb9).trans hR1.2.2.1, (hb.cell (p := ⟨w12.heap.size, 1, none⟩) qb9).trans hR1.2.2.2⟩) (fun hR2 => ?_)
 clear hK K hR1
 (try simp only [Act.put, sa, List.set])
 replace qb7 := Nat.lt_of_lt_of_le qb7 hz23; replace qb9 := Nat.lt_of_lt_of_le qb9 hz23; clear hb hBd
 refine tz 10 ?_
 (try simp only [Act.put, sa, List.set])
 refine tz 11 ?_
 (try simp only [Act.put, sa, List.set])
 refine tz 12 ?_
 (try simp only [Act.put, sa, List.set])
 refine tz 13 ?_
 (try simp only [Act.put, sa, List.set])
 refine tz 14 ?_
 (try simp only [Act.put, sa, List.set])
 refine tz 15 ?_
 (try simp only [Act.put, sa, List.set])
 refine tz 16 ?_
 (try simp only [Act.put, sa, List.set])
 refine tz 17 ?_
 (try simp only [Act.put, sa, List.set])
 refine tz 19 ?_
 (try simp only [Act.put, sa, List.set])
 refine rz 18 fun K hK => ?_
 go_simp
 go_at_call 38; have hBd := hB; refine (HQ6.out _).mono ?_; rintro e w24 ⟨⟨vr, rfl, gr⟩, hb⟩; replace xb7 := xb7.on hb; replace xb9 := xb9.on hb; replace f7 := f7.on hb; replace nm := nm.on hb; replace hB := hB.trans (hb.mono hB.size); have hz24 := hb.size
 (try go_wp2_with fail)
 refine hK.out _ _ (⟨(hb.cell (p := ⟨w10.heap.size, 0, none⟩) qb7).trans hR2.1, (hb.cell (p := ⟨w10.heap.size, 1, none⟩) qb7).trans hR2.2.1, (hb.cell (p := ⟨w12.heap.size, 0, none⟩) qb9).trans hR2.2.2.1, (hb.cell (p := ⟨w12.heap.size, 1, none⟩) qb9).trans hR2.2.2.2⟩) (fun hR3 => ?_)
 clear hK K hR2
 (try simp only [Act.put, sa, List.set])
 replace qb7 := Nat.lt_of_lt_of_le qb7 hz24; replace qb9 := Nat.lt_of_lt_of_le qb9 hz24; clear hb hBd
 refine rz 20 fun K hK => ?_
 go_simp
 go_at_call 81; have hBd := hB; refine (HRa.out _ _ gr).mono ?_; rintro e w25 ⟨rfl, hb⟩; replace xb7 := xb7.on hb; replace xb9 := xb9.on hb; replace f7 := f7.on hb; replace nm := nm.on hb; replace gr := gr.on hb; replace hB := hB.trans (hb.mono hB.size); have hz25 := hb.size
 (try go_wp2_with fail)
 refine hK.out _ _ (⟨(hb.cell (p := ⟨w10.heap.size, 0, none⟩) qb7).trans hR3.1, (hb.cell (p := ⟨w10.heap.size, 1, none⟩) qb7).trans hR3.2.1, (hb.cell (p := ⟨w12.heap.size, 0, none⟩) qb9).trans hR3.2.2.1, (hb.cell (p := ⟨w12.heap.size, 1, none⟩) qb9).trans hR3.2.2.2⟩) (fun hR4 => ?_)
 clear hK K hR3
 (try simp only [Act.put, sa, List.set])
 replace qb7 := Nat.lt_of_lt_of_le qb7 hz25; replace qb9 := Nat.lt_of_lt_of_le qb9 hz25; clear hb hBd
 refine tz 21 ?_
 (try simp only [Act.put, sa, List.set])
 refine tz 22 ?_
 (try simp only [Act.put, sa, List.set])
 refine tz 24 ?_
 (try simp only [Act.put, sa, List.set])
 refine rz 23 fun K hK => ?_
 go_simp
 go_at_call 38; have hBd := hB; refine (HQ7.out _).mono ?_; rintro e w26 ⟨⟨vs, rfl, gs⟩, hb⟩; replace xb7 := xb7.on hb; replace xb9 := xb9.on hb; replace f7 := f7.on hb; replace nm := nm.on hb; replace gr := gr.on hb; replace hB := hB.trans (hb.mono hB.size); have hz26 := hb.size
 (try go_wp2_with fail)
 refine hK.out _ _ (⟨(hb.cell (p := ⟨w10.heap.size, 0, none⟩) qb7).trans hR4.1, (hb.cell (p := ⟨w10.heap.size, 1, none⟩) qb7).trans hR4.2.1, (hb.cell (p := ⟨w12.heap.size, 0, none⟩) qb9).trans hR4.2.2.1, (hb.cell (p := ⟨w12.heap.size, 1, none⟩) qb9).trans hR4.2.2.2⟩) (fun hR5 => ?_)
 clear hK K hR4
 (try simp only [Act.put, sa, List.set])
 replace qb7 := Nat.lt_of_lt_of_le qb7 hz26; replace qb9 := Nat.lt_of_lt_of_le qb9 hz26; clear hb hBd
 refine rz 25 fun K hK => ?_
 go_simp
 go_at_call 81; have hBd := hB; refine (HRb.out _ _ gs).mono ?_; rintro e w27 ⟨rfl, hb⟩; replace xb7 := xb7.on hb; replace xb9 := xb9.on hb; replace f7 := f7.on hb; replace nm := nm.on hb; replace gr := gr.on hb; replace gs := gs.on hb; replace hB := hB.trans (hb.mono hB.size); have hz27 := hb.size
 (try go_wp2_with fail)
 refine hK.out _ _ (⟨(hb.cell (p := ⟨w10.heap.size, 0, none⟩) qb7).trans hR5.1, (hb.cell (p := ⟨w10.heap.size, 1, none⟩) qb7).trans hR5.2.1, (hb.cell (p := ⟨w12.heap.size, 0, none⟩) qb9).trans hR5.2.2.1, (hb.cell (p := ⟨w12.heap.size, 1, none⟩) qb9).trans hR5.2.2.2⟩) (fun hR6 => ?_)
 clear hK K hR5
 (try simp only [Act.put, sa, List.set])
 replace qb7 := Nat.lt_of_lt_of_le qb7 hz27; replace qb9 := Nat.lt_of_lt_of_le qb9 hz27; clear hb hBd
 refine tz 26 ?_
 (try simp only [Act.put, sa, List.set])
 refine tz 27 ?_
 (try simp only [Act.put, sa, List.set])
 refine wpAnyH_done (by kernel_rfl) ?_ _
 refine NoPanic.normal ?_
 clear hR6 qb7 qb9
 go_wp2
 go_ret
 exact ⟨rfl, hB⟩
end Go.Proofs.YtmbcnfogjncdaaaGreat
