/- A part of the proofs about fractions. -/
import Derived.Test.YtmbcnfogjncdaaaGreatQFl1
import Derived.Test.YtmbcnfogjncdaaaGreatQFl11
import Derived.Test.YtmbcnfogjncdaaaGreatQFl13
import Derived.Test.YtmbcnfogjncdaaaGreatQFl21
set_option maxRecDepth 100000
set_option maxHeartbeats 2000000
namespace Go.Proofs.YtmbcnfogjncdaaaGreat
open Go.RowKit Wh
theorem Bk.ne {W : World} {B B' : Nat} {C C' : Array Value} {T T' : TypeId} (h : Bk W B C T) (g : Bk W B' C' T') (hT : T ≠ T') : B ≠ B' := fun e => by
 subst e
 unfold Bk at h g
 rw [h] at g
 simp only [Option.some.injEq, Obj.cells.injEq] at g
 exact hT g.2.1
theorem rfac_sz {n d : Int} (neg : Bool) (m : Nat) (h : Sz 512 n) (hd : 0 < d) : Sz 513 (rfac neg n d m) := by
 have h1 := rfac_le neg n d m hd
 have h2 : Sz 513 ((n.natAbs : Int) + 1) := Sz.add (h.le (by omega)) (Sz.small (z := 1) (by decide))
 exact h2.le (by omega)
theorem factor_any (q u : Rat) (b : Bool) (a : Option Addr) (k c : Nat) (b' : Bool) (a' : Option Addr) (k' c' : Nat) (ub : Bool) (ua : Option Addr) (uk uc : Nat) (ub' : Bool) (ua' : Option Addr) (uk' uc' : Nat) (hp : Fz 256 256 q) (hu : Fz 256 256 u) (hu0 : 0 < u.num) (m : Nat) (hm1 : 1 ≤ m) (hm2 : m ≤ 6) (w : World) (h : Fra w (.agg #[.bool b, .slice a k c, .bool b', .slice a' k' c']) q) (g : Fra w (.agg #[.bool ub, .slice ua uk uc, .bool ub', .slice ua' uk' uc']) u) :
    Calls Tryz.prog 116 #[.agg #[.bool b, .slice a k c, .bool b', .slice a' k' c'], .agg #[.bool ub, .slice ua uk uc, .bool ub', .slice ua' uk' uc'], .int .u8 (m : Int)] w fun e w' => (∃ v, e = .returned v ∧ Num w' v (rfac (decide (q.num < 0)) (q.num * u.den) (q.den * u.num) m)) ∧ Below w.heap.size w w' := by
  have eb := (fra_nums h).1
  by_cases h0 : q.num * (u.den : Int) % ((q.den : Int) * u.num) = 0
  · have := factor_0 q u b a k c b' a' k' c' ub ua uk uc ub' ua' uk' uc' hp hu hu0 (m : Int) h0 w h g
    unfold rfac
    rw [if_pos h0]
    exact this
  · unfold rfac
    rw [if_neg h0, ← eb]
    have hc : m = 1 ∨ m = 2 ∨ m = 3 ∨ m = 4 ∨ m = 5 ∨ m = 6 := by omega
    rcases hc with rfl | rfl | rfl | rfl | rfl | rfl
    · cases hr : rup 1 b (q.num * (u.den : Int) % ((q.den : Int) * u.num) + q.num * (u.den : Int) % ((q.den : Int) * u.num)) ((q.den : Int) * u.num) (q.num * (u.den : Int) / ((q.den : Int) * u.num)) with
      | true => rw [if_pos rfl]; exact factor_1true q u b a k c b' a' k' c' ub ua uk uc ub' ua' uk' uc' hp hu hu0 h0 hr w h g
      | false => rw [if_neg Bool.false_ne_true]; exact factor_1false q u b a k c b' a' k' c' ub ua uk uc ub' ua' uk' uc' hp hu hu0 h0 hr w h g
    · cases hr : rup 2 b (q.num * (u.den : Int) % ((q.den : Int) * u.num) + q.num * (u.den : Int) % ((q.den : Int) * u.num)) ((q.den : Int) * u.num) (q.num * (u.den : Int) / ((q.den : Int) * u.num)) with
      | true => rw [if_pos rfl]; exact factor_2true q u b a k c b' a' k' c' ub ua uk uc ub' ua' uk' uc' hp hu hu0 h0 hr w h g
      | false => rw [if_neg Bool.false_ne_true]; exact factor_2false q u b a k c b' a' k' c' ub ua uk uc ub' ua' uk' uc' hp hu hu0 h0 hr w h g
    · exact factor_3false q u b a k c b' a' k' c' ub ua uk uc ub' ua' uk' uc' hp hu hu0 h0 w h g
    · exact factor_4true q u b a k c b' a' k' c' ub ua uk uc ub' ua' uk' uc' hp hu hu0 h0 w h g
    · cases hr : rup 5 b (q.num * (u.den : Int) % ((q.den : Int) * u.num) + q.num * (u.den : Int) % ((q.den : Int) * u.num)) ((q.den : Int) * u.num) (q.num * (u.den : Int) / ((q.den : Int) * u.num)) with
      | true => rw [if_pos rfl]; exact factor_5true q u b a k c b' a' k' c' ub ua uk uc ub' ua' uk' uc' hp hu hu0 h0 hr w h g
      | false => rw [if_neg Bool.false_ne_true]; exact factor_5false q u b a k c b' a' k' c' ub ua uk uc ub' ua' uk' uc' hp hu hu0 h0 hr w h g
    · cases hr : rup 6 b (q.num * (u.den : Int) % ((q.den : Int) * u.num) + q.num * (u.den : Int) % ((q.den : Int) * u.num)) ((q.den : Int) * u.num) (q.num * (u.den : Int) / ((q.den : Int) * u.num)) with
      | true => rw [if_pos rfl]; exact factor_6true q u b a k c b' a' k' c' ub ua uk uc ub' ua' uk' uc' hp hu hu0 h0 hr w h g
      | false => rw [if_neg Bool.false_ne_true]; exact factor_6false q u b a k c b' a' k' c' ub ua uk uc ub' ua' uk' uc' hp hu hu0 h0 hr w h g
theorem frRound_ok (q u : Rat) (b : Bool) (a : Option Addr) (k c : Nat) (b' : Bool) (a' : Option Addr) (k' c' : Nat) (ub : Bool) (ua : Option Addr) (uk uc : Nat) (ub' : Bool) (ua' : Option Addr) (uk' uc' : Nat) (hq : Fz 256 256 q) (hu : Fz 256 256 u) (hu0 : 0 < u.num) (m : Nat) (hm1 : 1 ≤ m) (hm2 : m ≤ 6) (hz : Fz 256 256 (rnd q u m)) (w : World) (h : Fra w (.agg #[.bool b, .slice a k c, .bool b', .slice a' k' c']) q) (g : Fra w (.agg #[.bool ub, .slice ua uk uc, .bool ub', .slice ua' uk' uc']) u) :
    Calls Tryz.prog 34 #[.agg #[.bool b, .slice a k c, .bool b', .slice a' k' c'], .agg #[.bool ub, .slice ua uk uc, .bool ub', .slice ua' uk' uc'], .int .u8 (m : Int)] w fun e w' => (∃ v, e = .returned (.tuple #[v, .int .i64 0]) ∧ Fra w' v (rnd q u m)) ∧ Below w.heap.size w w' := by
  have HV1 := Lib.hid (fun W (hW : Below w.heap.size w W) => valid_ok (.agg #[.bool b, .slice a k c, .bool b', .slice a' k' c']) q hq W (h.below hW (Nat.le_refl _)))
  have HV2 := Lib.hid (fun W (hW : Below w.heap.size w W) => valid_ok (.agg #[.bool ub, .slice ua uk uc, .bool ub', .slice ua' uk' uc']) u hu W (g.below hW (Nat.le_refl _)))
  obtain ⟨eb, eb', n1, n2⟩ := fra_nums g
  have hz0 := fun W (hW : Below w.heap.size w W) => isZero_num _ u.num W (n1.below hW (Nat.le_refl _))
  rw [show decide (u.num = 0) = false from decide_eq_false (by omega)] at hz0
  have HZ := Lib.hid hz0
  have hn0 := fun W => negative_any ub ua uk uc ub' ua' uk' uc' W
  have eu : ub = false := by rw [eb]; exact decide_eq_false (by omega)
  simp only [show Ending.returned (.bool ub) = Ending.returned (.bool false) from by rw [eu]] at hn0
  have HN := Lib.hid hn0
  clear hn0 eu
  have HF := Lib.hid (fun W (hW : Below w.heap.size w W) => factor_any q u b a k c b' a' k' c' ub ua uk uc ub' ua' uk' uc' hq hu hu0 m hm1 hm2 W (h.below hW (Nat.le_refl _)) (g.below hW (Nat.le_refl _)))
  have hk : Sz 513 (rfac (decide (q.num < 0)) (q.num * u.den) (q.den * u.num) m) := rfac_sz (decide (q.num < 0)) m (Sz.mul hq.1 hu.2) (Int.mul_pos (by have := q.den_pos; omega) hu0)
  obtain ⟨h2, h2d⟩ := hu
  have HT := Lib.hid (fun v W (hW : Below w.heap.size w W) gk => frtimes_any v (.agg #[.bool ub, .slice ua uk uc]) (rfac (decide (q.num < 0)) (q.num * u.den) (q.den * u.num) m) u.num _ rfl (hk.mono (by decide)) (h2.mono (by decide)) ((Sz.mul hk h2).mono (by decide)) W gk (n1.below hW (Nat.le_refl _)))
  have HM := Lib.hid (fun bn an kn cn W gp (hW : Below w.heap.size w W) => Make_okk bn an kn cn ub' ua' uk' uc' _ (u.den : Int) (rnd q u m) rfl ((Sz.mul hk h2).mono (by decide)) (h2d.mono (by decide)) (by have := u.den_pos; omega) hz W gp (n2.below hW (Nat.le_refl _)))
  clear hk h2 h2d hz h g n1 n2 eb eb' hz0 hq
  try clear hu0
  have hB := Below.refl w.heap.size w
  obtain ⟨al, xa, hN⟩ := mk hB #[.bool b, .slice a k c, .bool b', .slice a' k' c'] 39
  replace hB := hN; clear al hN
  try simp only [World.size_alloc] at xa
  obtain ⟨al, xb, hN⟩ := mk hB #[.bool ub, .slice ua uk uc, .bool ub', .slice ua' uk' uc'] 39
  replace xa := xa.on al; replace hB := hN; clear al hN
  try simp only [World.size_alloc] at xb
  obtain ⟨al, xr, hN⟩ := mk hB #[.bool false, .slice none 0 0, .bool false, .slice none 0 0] 39
  replace xa := xa.on al; replace xb := xb.on al; replace hB := hN; clear al hN
  try simp only [World.size_alloc] at xr
  go_enter Tryz.func34, Tryz.ntmps34
  go_upto_region 1 with fail
  have xa1 := xa
  obtain ⟨W0, hW0⟩ : ∃ W, W = (((w.alloc (.cells #[.bool b, .slice a k c, .bool b', .slice a' k' c'] 39)).alloc (.cells #[.bool ub, .slice ua uk uc, .bool ub', .slice ua' uk' uc'] 39)).alloc (.cells #[.bool false, .slice none 0 0, .bool false, .slice none 0 0] 39)) := ⟨_, rfl⟩
  rw [← hW0] at hB xa xb xr ⊢
  clear hW0
  have q0 := xa.lt
  have q1 := xb.lt
  have a0 := xa.cell 0
  have b0 := xb.cell 0
  have a1 := xa.cell 1
  have b1 := xb.cell 1
  have a2 := xa.cell 2
  have b2 := xb.cell 2
  have a3 := xa.cell 3
  have b3 := xb.cell 3
  simp only [List.getElem?_toArray, List.getElem?_cons_zero, List.getElem?_cons_succ] at a0 a1 a2 a3 b0 b1 b2 b3
  clear xa xb xa1
  go_cut [8, 9] (fun s8 s9 wx => ∃ BX BY : Nat, s8 = .pointer (some ⟨BX, 0, none⟩) ∧ s9 = .pointer (some ⟨BY, 0, none⟩) ∧ Bk wx BX #[.bool b, .slice a k c, .bool b', .slice a' k' c'] 101 ∧ Bk wx BY #[.bool ub, .slice ua uk uc, .bool ub', .slice ua' uk' uc'] 101 ∧ Below W0.heap.size W0 wx)
  case first =>
    go_region
    all_goals (go_wp2_with fail; go_meet)
    · obtain ⟨t1, t2, t3⟩ := frpair_new W0 #[.bool b, .slice a k c, .bool b', .slice a' k' c'] #[.bool ub, .slice ua uk uc, .bool ub', .slice ua' uk' uc'] 101
      exact ⟨_, _, rfl, rfl, t1, t2, t3⟩
    · obtain ⟨t1, t2, t3⟩ := frpair_new W0 #[.bool ub, .slice ua uk uc, .bool ub', .slice ua' uk' uc'] #[.bool b, .slice a k c, .bool b', .slice a' k' c'] 101
      exact ⟨_, _, rfl, rfl, t2, t1, t3⟩
  case rest =>
    obtain ⟨BX, BY, rfl, rfl, xx, xy, hb⟩ := hcut
    replace xr := xr.on hb; replace hB := hB.trans (hb.mono hB.size)
    have hz0 := hb.size
    clear hb q0 q1 a0 a1 a2 a3 b0 b1 b2 b3
    have neX : BX ≠ w.heap.size + 1 + 1 := Bk.ne xx xr (by decide)
    have neY : BY ≠ w.heap.size + 1 + 1 := Bk.ne xy xr (by decide)
    have pr := xr.all4
    have px := xx.all4
    have py := xy.all4
    go_wp2_with fail
    clear pr px py
    refine (HV1.out _ hB).mono ?_
    rintro e w1 ⟨rfl, hb⟩
    replace xr := xr.on hb; replace xx := xx.on hb; replace xy := xy.on hb
    have hz1 := hb.size
    try simp at hz1
    replace hB := hB.trans (hb.mono hB.size); clear hb
    have pr := xr.all4
    have px := xx.all4
    have py := xy.all4
    go_wp2_with fail
    clear pr px py
    refine (HV2.out _ hB).mono ?_
    rintro e w2 ⟨rfl, hb⟩
    replace xr := xr.on hb; replace xx := xx.on hb; replace xy := xy.on hb
    have hz2 := hb.size
    try simp at hz2
    replace hB := hB.trans (hb.mono hB.size); clear hb
    have pr := xr.all4
    have px := xx.all4
    have py := xy.all4
    go_wp2_with fail
    clear pr px py
    refine (HZ.out _ hB).mono ?_
    rintro e w3 ⟨rfl, hb⟩
    replace xr := xr.on hb; replace xx := xx.on hb; replace xy := xy.on hb
    have hz3 := hb.size
    try simp at hz3
    replace hB := hB.trans (hb.mono hB.size); clear hb
    have pr := xr.all4
    have px := xx.all4
    have py := xy.all4
    go_wp2_with fail
    clear pr px py
    refine (HN.out _).mono ?_
    rintro e w4 ⟨rfl, hb⟩
    replace xr := xr.on hb; replace xx := xx.on hb; replace xy := xy.on hb
    have hz4 := hb.size
    try simp at hz4
    replace hB := hB.trans (hb.mono hB.size); clear hb
    have pr := xr.all4
    have px := xx.all4
    have py := xy.all4
    go_wp2_with fail
    clear pr px py
    have qx := xx.lt
    have qy := xy.lt
    obtain ⟨gx0, gx1, gx2, gx3⟩ := xx.cells4
    obtain ⟨gy0, gy1, gy2, gy3⟩ := xy.cells4
    refine wp_region_noPanic ?_
    refine wp_region_held_drew (S := (fun w' => (w'.cell? ⟨BX, 0, none⟩ = some (.bool b) ∧ w'.cell? ⟨BX, 1, none⟩ = some (.slice a k c) ∧ w'.cell? ⟨BX, 2, none⟩ = some (.bool b') ∧ w'.cell? ⟨BX, 3, none⟩ = some (.slice a' k' c')) ∧ w'.cell? ⟨BY, 0, none⟩ = some (.bool ub) ∧ w'.cell? ⟨BY, 1, none⟩ = some (.slice ua uk uc) ∧ w'.cell? ⟨BY, 2, none⟩ = some (.bool ub') ∧ w'.cell? ⟨BY, 3, none⟩ = some (.slice ua' uk' uc'))) (by kernel_rfl) ⟨⟨gx0, gx1, gx2, gx3⟩, ⟨gy0, gy1, gy2, gy3⟩⟩ (fun hR0 => ?_)
    change wpAnyH _ _ _ _ _ 16 #[false, false, false, false, false, false, false, false, false, false, false, false, false, false, false, false] _ _
    clear gx0 gx1 gx2 gx3 gy0 gy1 gy2 gy3
    refine tz 0 ?_
    (try simp only [Act.put, sa, List.set])
    refine tz 1 ?_
    (try simp only [Act.put, sa, List.set])
    refine tz 2 ?_
    (try simp only [Act.put, sa, List.set])
    refine tz 4 ?_
    (try simp only [Act.put, sa, List.set])
    refine tz 5 ?_
    (try simp only [Act.put, sa, List.set])
    refine tz 6 ?_
    (try simp only [Act.put, sa, List.set])
    refine tz 8 ?_
    (try simp only [Act.put, sa, List.set])
    refine tz 9 ?_
    (try simp only [Act.put, sa, List.set])
    refine tz 10 ?_
    (try simp only [Act.put, sa, List.set])
    refine rz 3 fun K hK => ?_
    go_simp
    go_at_call 116; have hBd := hB.drew; refine (HF.out _ hBd).mono ?_; rintro e w5 ⟨⟨v1, rfl, gk⟩, hb⟩; replace hb := (Below.refl w4.heap.size w4).drew.trans hb; obtain ⟨b1, a1, k1, c1, rfl⟩ := gk.opened; replace xr := xr.on hb; replace xx := xx.on hb; replace xy := xy.on hb; replace hB := hB.trans (hb.mono hB.size); have hz5 := hb.size
    (try go_wp2_with fail)
    refine hK.out _ _ (⟨keep4 hb qx hR0.1, keep4 hb qy hR0.2⟩) (fun hR1 => ?_)
    clear hK K hR0
    (try simp only [Act.put, sa, List.set])
    replace qx := Nat.lt_of_lt_of_le qx hz5; replace qy := Nat.lt_of_lt_of_le qy hz5; clear hb hBd
    refine rz 7 fun K hK => ?_
    go_simp
    go_at_call 115; have hBd := hB; refine (HT.out _ _ hBd gk).mono ?_; rintro e w6 ⟨⟨v2, rfl, gp⟩, hb⟩; obtain ⟨b2, a2, k2, c2, rfl⟩ := gp.num.opened; replace gp := gp.num; replace xr := xr.on hb; replace xx := xx.on hb; replace xy := xy.on hb; replace hB := hB.trans (hb.mono hB.size); have hz6 := hb.size
    (try go_wp2_with fail)
    refine hK.out _ _ (⟨keep4 hb qx hR1.1, keep4 hb qy hR1.2⟩) (fun hR2 => ?_)
    clear hK K hR1
    (try simp only [Act.put, sa, List.set])
    replace qx := Nat.lt_of_lt_of_le qx hz6; replace qy := Nat.lt_of_lt_of_le qy hz6; clear hb hBd
    refine rz 11 fun K hK => ?_
    go_simp
    go_at_call 24; have hBd := hB; refine (HM.out _ _ _ _ _ gp hBd).mono ?_; rintro e w7 ⟨⟨v3, rfl, gm⟩, hb⟩; obtain ⟨b5, a5, k5, c5, b6, a6, k6, c6, rfl⟩ := gm.fra.opened; replace gm := gm.fra; replace xr := xr.on hb; replace xx := xx.on hb; replace xy := xy.on hb; replace hB := hB.trans (hb.mono hB.size); have hz7 := hb.size
    (try go_wp2_with fail)
    refine hK.out _ _ (⟨keep4 hb qx hR2.1, keep4 hb qy hR2.2⟩) (fun hR3 => ?_)
    clear hK K hR2
    (try simp only [Act.put, sa, List.set])
    replace qx := Nat.lt_of_lt_of_le qx hz7; replace qy := Nat.lt_of_lt_of_le qy hz7; clear hb hBd
    refine tz 12 ?_
    (try simp only [Act.put, sa, List.set])
    refine tz 13 ?_
    (try simp only [Act.put, sa, List.set])
    have pr := xr.all4
    refine rz 14 fun K hK => ?_
    go_simp
    refine hK.out _ _ (⟨stay4 hR3.1 (by omega), stay4 hR3.2 (by omega)⟩) (fun hR4 => ?_)
    clear hK K hR3
    (try simp only [Act.put, sa, List.set])
    clear pr; replace gm := gm.setB4 xr rfl (.bool b5) (.slice a5 k5 c5) (.bool b6) (.slice a6 k6 c6) rfl; replace xx := xx.put_other4 (w.heap.size + 1 + 1) (.bool b5) (.slice a5 k5 c5) (.bool b6) (.slice a6 k6 c6) (by omega); replace xy := xy.put_other4 (w.heap.size + 1 + 1) (.bool b5) (.slice a5 k5 c5) (.bool b6) (.slice a6 k6 c6) (by omega); replace xr := xr.put4 (.bool b5) (.slice a5 k5 c5) (.bool b6) (.slice a6 k6 c6); replace hB := below4 hB (w.heap.size + 1 + 1) (by first | omega | (simp; omega) | simp) (.bool b5) (.slice a5 k5 c5) (.bool b6) (.slice a6 k6 c6)
    refine tz 15 ?_
    (try simp only [Act.put, sa, List.set])
    refine wpAnyH_done (by kernel_rfl) ?_ _
    refine NoPanic.normal ?_
    clear hR4 qx qy xx xy
    generalize ((((w7.setCell ⟨w.heap.size + 1 + 1, 0, none⟩ (.bool b5)).setCell ⟨w.heap.size + 1 + 1, 1, none⟩ (.slice a5 k5 c5)).setCell ⟨w.heap.size + 1 + 1, 2, none⟩ (.bool b6)).setCell ⟨w.heap.size + 1 + 1, 3, none⟩ (.slice a6 k6 c6)) = WF at *
    have pr := xr.all4
    go_wp2
    exact bodyPost_ret (v := .tuple #[.agg #[.bool b5, .slice a5 k5 c5, .bool b6, .slice a6 k6 c6], .int .i64 0]) (by simp [results, Tryz.results34, go_sem, pr]) rfl ⟨⟨_, rfl, gm⟩, hB⟩
end Go.Proofs.YtmbcnfogjncdaaaGreat
namespace Go.Proofs.YtmbcnfogjncdaaaGreat
open Go.RowKit Wh
theorem low_parts {n d : Int} (hd : d ≠ 0) : n.natAbs / Nat.gcd n.natAbs d.natAbs = (Rat.divInt n d).num.natAbs ∧ d.natAbs / Nat.gcd n.natAbs d.natAbs = (Rat.divInt n d).den ∧ decide ((Rat.divInt n d).num < 0) = ((decide (n < 0) != decide (d < 0)) && decide (dig (Rat.divInt n d).num.natAbs ≠ [])) := by
  obtain ⟨P1, P2⟩ := Fq.parts (n := n) hd
  have hg := Fq.cf_pos (n := n) hd
  have ha := Fq.cf_abs (n := n) hd
  have hn := Fq.cf_neg (n := n) hd
  have h0 := Fq.cf_ne (n := n) hd
  have e1 := congrArg Int.natAbs P1
  have e2 := congrArg Int.natAbs P2
  rw [Int.natAbs_mul, ha] at e1 e2
  rw [Int.natAbs_natCast] at e2
  refine ⟨?_, ?_, ?_⟩
  · conv => lhs; lhs; rw [e1]
    exact Nat.mul_div_cancel _ hg
  · conv => lhs; lhs; rw [e2]
    exact Nat.mul_div_cancel _ hg
  · generalize (Rat.divInt n d).num = z at *
    generalize Fq.cf n d = c at *
    clear P2 e1 e2 ha hg
    rw [show decide (dig z.natAbs ≠ []) = decide (z ≠ 0) from by rw [decide_eq_decide]; exact not_congr ((dig_nil_iff _).trans Int.natAbs_eq_zero)]
    subst P1
    rcases Int.lt_trichotomy z 0 with hz | hz | hz
    · rcases Int.lt_or_le d 0 with g | g
      · have hc := hn.2 g
        have := Int.mul_pos_of_neg_of_neg hz hc
        rw [decide_eq_true hz, decide_eq_false (by omega : ¬ z * c < 0), decide_eq_true g, decide_eq_true (by omega : z ≠ 0)]; rfl
      · have hc : 0 < c := by omega
        have := Int.mul_neg_of_neg_of_pos hz hc
        rw [decide_eq_true hz, decide_eq_true this, decide_eq_false (by omega : ¬ d < 0), decide_eq_true (by omega : z ≠ 0)]; rfl
    · subst hz
      rw [decide_eq_false (by omega : ¬ (0 : Int) < 0), decide_eq_false (by simp : ¬ (0 : Int) ≠ 0), Bool.and_false]
    · rcases Int.lt_or_le d 0 with g | g
      · have hc := hn.2 g
        have := Int.mul_neg_of_pos_of_neg hz hc
        rw [decide_eq_false (by omega : ¬ z < 0), decide_eq_true this, decide_eq_true g]; rfl
      · have hc : 0 < c := by omega
        have := Int.mul_pos hz hc
        rw [decide_eq_false (by omega : ¬ z < 0), decide_eq_false (by omega : ¬ z * c < 0), decide_eq_false (by omega : ¬ d < 0)]; rfl
theorem low_fra {W : World} {n d : Int} (hd : d ≠ 0) {bn bd m1 m2 : Bool} (en : bn = decide (n < 0)) (ed : bd = decide (d < 0)) {s t : Value} {A B : Nat} (h1 : Lim W s (dig A)) (h2 : Lim W t (dig B)) (hA : A = n.natAbs / Nat.gcd n.natAbs d.natAbs) (hB : B = d.natAbs / Nat.gcd n.natAbs d.natAbs) (hm1 : m1 = ((bn != bd) && decide (dig A ≠ []))) (hm2 : m2 = false) : Fra W (.agg #[.bool m1, s, .bool m2, t]) (Rat.divInt n d) := by
 obtain ⟨e1, e2, e3⟩ := low_parts (n := n) hd
 rw [e1] at hA
 rw [e2] at hB
 subst hA; subst hB
 refine ⟨s, t, ?_, h1, h2⟩
 rw [hm1, hm2, en, ed, e3]
theorem lim_of_num {W : World} {b : Bool} {s : Value} {z : Int} (h : Num W (.agg #[.bool b, s]) z) : b = decide (z < 0) ∧ Lim W s (dig z.natAbs) := by
 obtain ⟨s', e, h⟩ := h
 simp only [Value.agg.injEq, Array.mk.injEq, List.cons.injEq, Value.bool.injEq, and_true] at e
 obtain ⟨rfl, rfl⟩ := e
 exact ⟨rfl, h⟩
theorem refMake_ex (b : Bool) (s : Value) (l : List Nat) (w : World) (h : Lim w s l) :
  Calls Tryz.prog 64 #[.bool b, s] w fun e w' => (∃ m, e = .returned (.agg #[.bool m, s]) ∧ m = (b && decide (l ≠ []))) ∧ Below w.heap.size w w' :=
 (refMake_any b s l w h).mono fun _ _ ⟨he, hb⟩ => ⟨⟨_, he, rfl⟩, hb⟩
theorem Lowest_one (bn : Bool) (an : Option Addr) (kn cn : Nat) (bd : Bool) (ad : Option Addr) (kd cd : Nat) (n d : Int) (hn : (dig n.natAbs).length ≤ 16384) (hd0 : d ≠ 0) (hd2 : d.natAbs < 65536) (hg : Nat.gcd n.natAbs d.natAbs = 1) (w : World) (nn : Num w (.agg #[.bool bn, .slice an kn cn]) n) (nd : Num w (.agg #[.bool bd, .slice ad kd cd]) d) :
  Calls Tryz.prog 86 #[.agg #[.bool bn, .slice an kn cn], .agg #[.bool bd, .slice ad kd cd]] w fun e w' => (∃ v, e = .returned v ∧ Fra w' v (Rat.divInt n d)) ∧ Below w.heap.size w w' := by
 obtain ⟨en, ln⟩ := lim_of_num nn
 obtain ⟨ed, ld⟩ := lim_of_num nd
 have HC := Lib.hid (fun W (hW : Below w.heap.size w W) => refCommon_one (.slice an kn cn) (.slice ad kd cd) n.natAbs d.natAbs hn hd2 W (ln.below hW (Nat.le_refl _)) (ld.below hW (Nat.le_refl _)))
 have ho := fun s W (h : Lim W s (dig (Nat.gcd n.natAbs d.natAbs))) => ref2one_any s _ (dig_Lm _) W h
 rw [hg] at ho
 simp only [show dig 1 = [1] from dig_one_limb (by decide) (by decide), decide_true] at ho
 have HO := Lib.hid ho
 have HM1 := Lib.hid (fun b W (hW : Below w.heap.size w W) => refMake_ex b (.slice an kn cn) (dig n.natAbs) W (ln.below hW (Nat.le_refl _)))
 have HM2 := Lib.hid (fun W (hW : Below w.heap.size w W) => refMake_ex false (.slice ad kd cd) (dig d.natAbs) W (ld.below hW (Nat.le_refl _)))
 have LN := Lib.hid (And.intro (And.intro en ed) (And.intro ln ld))
 have HG := Lib.hid hg
 have HN := Lib.hid hd0
 clear ho hg hn hd2 en ed ln ld nn nd hd0
 have hB := Below.refl w.heap.size w
 obtain ⟨al, xn, hN⟩ := mk hB #[.bool bn, .slice an kn cn] 24
 replace hB := hN; clear al hN
 try simp only [World.size_alloc] at xn
 obtain ⟨al, xd, hN⟩ := mk hB #[.bool bd, .slice ad kd cd] 24
 replace xn := xn.on al; replace hB := hN; clear al hN
 try simp only [World.size_alloc] at xd
 obtain ⟨al, xr, hN⟩ := mk hB #[.bool false, .slice none 0 0, .bool false, .slice none 0 0] 39
 replace xn := xn.on al; replace xd := xd.on al; replace hB := hN; clear al hN
 try simp only [World.size_alloc] at xr
 go_enter Tryz.func86, Tryz.ntmps86
 have pn := xn.all2
 have pd := xd.all2
 have pr := xr.all4
 go_wp2_with fail
 clear pn pd pr
 refine (HC.out _ hB).mono ?_
 rintro e w1 ⟨⟨v, rfl, lg⟩, hb⟩
 obtain ⟨ag, cg, rfl⟩ := lim_slice lg
 replace xn := xn.on hb; replace xd := xd.on hb; replace xr := xr.on hb
 have hz1 := hb.size
 try simp at hz1
 replace hB := hB.trans (hb.mono hB.size); clear hb
 have lg1 := lg; rw [HG.out] at lg1
 clear lg1
 have pn := xn.all2
 have pd := xd.all2
 have pr := xr.all4
 go_wp2_with fail
 refine (HO.out _ _ (by rw [← show dig (Nat.gcd n.natAbs d.natAbs) = [1] from by rw [HG.out]; exact dig_one_limb (by decide) (by decide)]; exact lg)).mono ?_
 rintro e w2 ⟨rfl, rfl⟩
 go_wp2_with fail
 clear pn pd pr
 have qn := xn.lt
 have qd := xd.lt
 obtain ⟨gn0, gn1⟩ := xn.cells2
 obtain ⟨gd0, gd1⟩ := xd.cells2
 refine wp_region_noPanic ?_
 refine wp_region_held_drew (S := (fun w' => w'.cell? ⟨w.heap.size, 0, none⟩ = some (.bool bn) ∧ w'.cell? ⟨w.heap.size, 1, none⟩ = some (.slice an kn cn) ∧ w'.cell? ⟨w.heap.size + 1, 0, none⟩ = some (.bool bd) ∧ w'.cell? ⟨w.heap.size + 1, 1, none⟩ = some (.slice ad kd cd))) (by kernel_rfl) ⟨gn0, gn1, gd0, gd1⟩ (fun hR0 => ?_)
 change wpAnyH _ _ _ _ _ 13 #[false, false, false, false, false, false, false, false, false, false, false, false, false] _ _
 clear gn0 gn1 gd0 gd1
 refine tz 0 ?_
 (try simp only [Act.put, sa, List.set])
 refine tz 1 ?_
 (try simp only [Act.put, sa, List.set])
 refine tz 2 ?_
 (try simp only [Act.put, sa, List.set])
 refine tz 3 ?_
 (try simp only [Act.put, sa, List.set])
 refine tz 4 ?_
 (try simp only [Act.put, sa, List.set])
 refine tz 5 ?_
 (try simp only [Act.put, sa, List.set])
 refine tz 6 ?_
 (try simp only [Act.put, sa, List.set])
 refine tz 8 ?_
 (try simp only [Act.put, sa, List.set])
 refine tz 9 ?_
 (try simp only [Act.put, sa, List.set])
 refine rz 7 fun K hK => ?_
 go_simp
 go_at_call 64; have hBd := hB.drew; refine (HM1.out _ _ hBd).mono ?_; rintro e w3 ⟨⟨m1, rfl, hm1⟩, hb⟩; replace hb := (Below.refl w2.heap.size w2).drew.trans hb; replace hm1 := Lib.hid hm1; replace xn := xn.on hb; replace xd := xd.on hb; replace xr := xr.on hb; replace hB := hB.trans (hb.mono hB.size); have hz3 := hb.size
 (try go_wp2_with fail)
 refine hK.out _ _ (⟨(hb.cell (p := ⟨w.heap.size, 0, none⟩) qn).trans hR0.1, (hb.cell (p := ⟨w.heap.size, 1, none⟩) qn).trans hR0.2.1, (hb.cell (p := ⟨w.heap.size + 1, 0, none⟩) qd).trans hR0.2.2.1, (hb.cell (p := ⟨w.heap.size + 1, 1, none⟩) qd).trans hR0.2.2.2⟩) (fun hR1 => ?_)
 clear hK K hR0
 (try simp only [Act.put, sa, List.set])
 replace qn := Nat.lt_of_lt_of_le qn hz3; replace qd := Nat.lt_of_lt_of_le qd hz3; clear hb hBd
 refine rz 10 fun K hK => ?_
 go_simp
 go_at_call 64; have hBd := hB; refine (HM2.out _ hBd).mono ?_; rintro e w4 ⟨⟨m2, rfl, hm2⟩, hb⟩; replace hm2 := Lib.hid hm2; replace xn := xn.on hb; replace xd := xd.on hb; replace xr := xr.on hb; replace hB := hB.trans (hb.mono hB.size); have hz4 := hb.size
 (try go_wp2_with fail)
 refine hK.out _ _ (⟨(hb.cell (p := ⟨w.heap.size, 0, none⟩) qn).trans hR1.1, (hb.cell (p := ⟨w.heap.size, 1, none⟩) qn).trans hR1.2.1, (hb.cell (p := ⟨w.heap.size + 1, 0, none⟩) qd).trans hR1.2.2.1, (hb.cell (p := ⟨w.heap.size + 1, 1, none⟩) qd).trans hR1.2.2.2⟩) (fun hR2 => ?_)
 clear hK K hR1
 (try simp only [Act.put, sa, List.set])
 replace qn := Nat.lt_of_lt_of_le qn hz4; replace qd := Nat.lt_of_lt_of_le qd hz4; clear hb hBd
 refine tz 11 ?_
 (try simp only [Act.put, sa, List.set])
 have pr := xr.all4
 refine rz 12 fun K hK => ?_
 go_simp
 refine hK.out _ _ (⟨cell_store4 hR2.1 (by omega), cell_store4 hR2.2.1 (by omega), cell_store4 hR2.2.2.1 (by omega), cell_store4 hR2.2.2.2 (by omega)⟩) (fun hR3 => ?_)
 clear hK K hR2
 (try simp only [Act.put, sa, List.set])
 clear pr; replace xn := xn.put_other4 (w.heap.size + 1 + 1) (.bool m1) (.slice an kn cn) (.bool m2) (.slice ad kd cd) (by omega); replace xd := xd.put_other4 (w.heap.size + 1 + 1) (.bool m1) (.slice an kn cn) (.bool m2) (.slice ad kd cd) (by omega); replace xr := xr.put4 (.bool m1) (.slice an kn cn) (.bool m2) (.slice ad kd cd); replace hB := below4 hB (w.heap.size + 1 + 1) (by first | omega | (simp; omega) | simp) (.bool m1) (.slice an kn cn) (.bool m2) (.slice ad kd cd)
 refine wpAnyH_done (by kernel_rfl) ?_ _
 refine NoPanic.normal ?_
 clear hR3 qn qd xn xd lg
 have pr := xr.all4
 go_wp2
 clear pr
 generalize ((((w4.setCell ⟨w.heap.size + 1 + 1, 0, none⟩ (.bool m1)).setCell ⟨w.heap.size + 1 + 1, 1, none⟩ (.slice an kn cn)).setCell ⟨w.heap.size + 1 + 1, 2, none⟩ (.bool m2)).setCell ⟨w.heap.size + 1 + 1, 3, none⟩ (.slice ad kd cd)) = WF at *
 have pr := xr.all4
 exact bodyPost_ret (v := .agg #[.bool m1, .slice an kn cn, .bool m2, .slice ad kd cd]) (by simp [results, Tryz.results86, go_sem, pr]) rfl ⟨⟨_, rfl, low_fra HN.out LN.out.1.1 LN.out.1.2 (LN.out.2.1.below hB (Nat.le_refl _)) (LN.out.2.2.below hB (Nat.le_refl _)) (by rw [HG.out, Nat.div_one]) (by rw [HG.out, Nat.div_one]) hm1.out (hm2.out.trans (Bool.false_and _))⟩, hB⟩
theorem Lowest_more (bn : Bool) (an : Option Addr) (kn cn : Nat) (bd : Bool) (ad : Option Addr) (kd cd : Nat) (n d : Int) (hn : (dig n.natAbs).length ≤ 16384) (hd0 : d ≠ 0) (hd2 : d.natAbs < 65536) (hg : Nat.gcd n.natAbs d.natAbs ≠ 1) (w : World) (nn : Num w (.agg #[.bool bn, .slice an kn cn]) n) (nd : Num w (.agg #[.bool bd, .slice ad kd cd]) d) :
  Calls Tryz.prog 86 #[.agg #[.bool bn, .slice an kn cn], .agg #[.bool bd, .slice ad kd cd]] w fun e w' => (∃ v, e = .returned v ∧ Fra w' v (Rat.divInt n d)) ∧ Below w.heap.size w w' := by
 obtain ⟨en, ln⟩ := lim_of_num nn
 obtain ⟨ed, ld⟩ := lim_of_num nd
 have HC := Lib.hid (fun W (hW : Below w.heap.size w W) => refCommon_one (.slice an kn cn) (.slice ad kd cd) n.natAbs d.natAbs hn hd2 W (ln.below hW (Nat.le_refl _)) (ld.below hW (Nat.le_refl _)))
 have ho := fun s W (h : Lim W s (dig (Nat.gcd n.natAbs d.natAbs))) => ref2one_any s _ (dig_Lm _) W h
 simp only [show decide (dig (Nat.gcd n.natAbs d.natAbs) = [1]) = false from decide_eq_false (fun e => hg (by have := val_dig (Nat.gcd n.natAbs d.natAbs); rw [e] at this; simpa [val] using this.symm))] at ho
 have hgp : 0 < Nat.gcd n.natAbs d.natAbs := Fq.cf_pos hd0
 have hgl : Nat.gcd n.natAbs d.natAbs < 65536 := Nat.lt_of_le_of_lt (Nat.gcd_le_right _ (by omega)) hd2
 have hdl : (dig d.natAbs).length ≤ 16384 := Nat.le_trans ((length_dig_le _ 1).2 (by omega)) (by decide)
 have HD1 := Lib.hid (fun sg W (hW : Below w.heap.size w W) (hg : Lim W sg (dig (Nat.gcd n.natAbs d.natAbs))) => refDivided_one (.slice an kn cn) sg n.natAbs (Nat.gcd n.natAbs d.natAbs) hn hgp hgl W (ln.below hW (Nat.le_refl _)) hg)
 have HD2 := Lib.hid (fun sg W (hW : Below w.heap.size w W) (hg : Lim W sg (dig (Nat.gcd n.natAbs d.natAbs))) => refDivided_one (.slice ad kd cd) sg d.natAbs (Nat.gcd n.natAbs d.natAbs) hdl hgp hgl W (ld.below hW (Nat.le_refl _)) hg)
 clear hgp hgl hdl
 have HO := Lib.hid ho
 have LN := Lib.hid (And.intro (And.intro en ed) (And.intro ln ld))
 have HG := Lib.hid hg
 have HN := Lib.hid hd0
 clear ho hg hn hd2 en ed ln ld nn nd hd0
 have hB := Below.refl w.heap.size w
 obtain ⟨al, xn, hN⟩ := mk hB #[.bool bn, .slice an kn cn] 24
 replace hB := hN; clear al hN
 try simp only [World.size_alloc] at xn
 obtain ⟨al, xd, hN⟩ := mk hB #[.bool bd, .slice ad kd cd] 24
 replace xn := xn.on al; replace hB := hN; clear al hN
 try simp only [World.size_alloc] at xd
 obtain ⟨al, xr, hN⟩ := mk hB #[.bool false, .slice none 0 0, .bool false, .slice none 0 0] 39
 replace xn := xn.on al; replace xd := xd.on al; replace hB := hN; clear al hN
 try simp only [World.size_alloc] at xr
 go_enter Tryz.func86, Tryz.ntmps86
 have pn := xn.all2
 have pd := xd.all2
 have pr := xr.all4
 go_wp2_with fail
 clear pn pd pr
 refine (HC.out _ hB).mono ?_
 rintro e w1 ⟨⟨v, rfl, lg⟩, hb⟩
 obtain ⟨ag, cg, rfl⟩ := lim_slice lg
 replace xn := xn.on hb; replace xd := xd.on hb; replace xr := xr.on hb
 have hz1 := hb.size
 try simp at hz1
 replace hB := hB.trans (hb.mono hB.size); clear hb
 have pn := xn.all2
 have pd := xd.all2
 have pr := xr.all4
 go_wp2_with fail
 refine (HO.out _ _ lg).mono ?_
 rintro e w2 ⟨rfl, rfl⟩
 go_wp2_with fail
 clear pn pd pr
 refine (HD1.out _ _ hB lg).mono ?_
 rintro e w3 ⟨⟨vq, vr, rfl, gq, gr⟩, hb⟩
 obtain ⟨aq, cq, rfl⟩ := lf_slice0 gq
 obtain ⟨ar, cr, rfl⟩ := lf_slice0 gr
 replace gq := gq.1; clear gr; replace xn := xn.on hb; replace xd := xd.on hb; replace xr := xr.on hb; replace lg := lg.on hb
 have hz3 := hb.size
 try simp at hz3
 replace hB := hB.trans (hb.mono hB.size); clear hb
 have pn := xn.all2
 have pd := xd.all2
 have pr := xr.all4
 go_wp2_with fail
 clear pn pd pr
 refine (HD2.out _ _ hB lg).mono ?_
 rintro e w4 ⟨⟨vp, vs, rfl, gp, gs⟩, hb⟩
 obtain ⟨ap, cp, rfl⟩ := lf_slice0 gp
 obtain ⟨ae, cs, rfl⟩ := lf_slice0 gs
 replace gp := gp.1; clear gs lg; replace xn := xn.on hb; replace xd := xd.on hb; replace xr := xr.on hb; replace gq := gq.on hb
 have hz4 := hb.size
 try simp at hz4
 replace hB := hB.trans (hb.mono hB.size); clear hb
 have pn := xn.all2
 have pd := xd.all2
 have pr := xr.all4
 go_wp2_with fail
 clear pn pd pr
 refine (refMake_ex _ _ _ _ gq).mono ?_
 rintro e w5 ⟨⟨m1, rfl, hm1⟩, hb⟩
 replace hm1 := Lib.hid hm1; replace xn := xn.on hb; replace xd := xd.on hb; replace xr := xr.on hb; replace gq := gq.on hb; replace gp := gp.on hb
 have hz5 := hb.size
 try simp at hz5
 replace hB := hB.trans (hb.mono hB.size); clear hb
 have pn := xn.all2
 have pd := xd.all2
 have pr := xr.all4
 go_wp2_with fail
 clear pn pd pr
 refine (refMake_ex _ _ _ _ gp).mono ?_
 rintro e w6 ⟨⟨m2, rfl, hm2⟩, hb⟩
 replace hm2 := Lib.hid hm2; replace xn := xn.on hb; replace xd := xd.on hb; replace xr := xr.on hb; replace gq := gq.on hb; replace gp := gp.on hb
 have hz6 := hb.size
 try simp at hz6
 replace hB := hB.trans (hb.mono hB.size); clear hb
 have pn := xn.all2
 have pd := xd.all2
 have pr := xr.all4
 go_wp2_with fail
 clear pn pd pr xn xd; replace gq := gq.setB4 xr rfl (.bool m1) (.slice aq (dig (n.natAbs / Nat.gcd n.natAbs d.natAbs)).length cq) (.bool m2) (.slice ap (dig (d.natAbs / Nat.gcd n.natAbs d.natAbs)).length cp) rfl; replace gp := gp.setB4 xr rfl (.bool m1) (.slice aq (dig (n.natAbs / Nat.gcd n.natAbs d.natAbs)).length cq) (.bool m2) (.slice ap (dig (d.natAbs / Nat.gcd n.natAbs d.natAbs)).length cp) rfl; replace xr := xr.put4 (.bool m1) (.slice aq (dig (n.natAbs / Nat.gcd n.natAbs d.natAbs)).length cq) (.bool m2) (.slice ap (dig (d.natAbs / Nat.gcd n.natAbs d.natAbs)).length cp); replace hB := below4 hB (w.heap.size + 1 + 1) (by first | omega | (simp; omega) | simp) (.bool m1) (.slice aq (dig (n.natAbs / Nat.gcd n.natAbs d.natAbs)).length cq) (.bool m2) (.slice ap (dig (d.natAbs / Nat.gcd n.natAbs d.natAbs)).length cp)
 generalize ((((w6.setCell ⟨w.heap.size + 1 + 1, 0, none⟩ (.bool m1)).setCell ⟨w.heap.size + 1 + 1, 1, none⟩ (.slice aq (dig (n.natAbs / Nat.gcd n.natAbs d.natAbs)).length cq)).setCell ⟨w.heap.size + 1 + 1, 2, none⟩ (.bool m2)).setCell ⟨w.heap.size + 1 + 1, 3, none⟩ (.slice ap (dig (d.natAbs / Nat.gcd n.natAbs d.natAbs)).length cp)) = WF at *
 have pr := xr.all4
 exact bodyPost_ret (v := .agg #[.bool m1, .slice aq (dig (n.natAbs / Nat.gcd n.natAbs d.natAbs)).length cq, .bool m2, .slice ap (dig (d.natAbs / Nat.gcd n.natAbs d.natAbs)).length cp]) (by simp [results, Tryz.results86, go_sem, pr]) rfl ⟨⟨_, rfl, low_fra HN.out LN.out.1.1 LN.out.1.2 gq gp rfl rfl hm1.out (hm2.out.trans (Bool.false_and _))⟩, hB⟩
theorem Lowest_any (bn : Bool) (an : Option Addr) (kn cn : Nat) (bd : Bool) (ad : Option Addr) (kd cd : Nat) (n d : Int) (hn : (dig n.natAbs).length ≤ 16384) (hd0 : d ≠ 0) (hd2 : d.natAbs < 65536) (w : World) (nn : Num w (.agg #[.bool bn, .slice an kn cn]) n) (nd : Num w (.agg #[.bool bd, .slice ad kd cd]) d) :
  Calls Tryz.prog 86 #[.agg #[.bool bn, .slice an kn cn], .agg #[.bool bd, .slice ad kd cd]] w fun e w' => (∃ v, e = .returned v ∧ Fra w' v (Rat.divInt n d)) ∧ Below w.heap.size w w' := by
 by_cases hg : Nat.gcd n.natAbs d.natAbs = 1
 · exact Lowest_one bn an kn cn bd ad kd cd n d hn hd0 hd2 hg w nn nd
 · exact Lowest_more bn an kn cn bd ad kd cd n d hn hd0 hd2 hg w nn nd
theorem Quick_any (n d : Int) (h1 : -9223372036854775808 ≤ n) (h2 : n ≤ 9223372036854775807) (hd0 : d ≠ 0) (hd2 : d.natAbs < 65536) (w : World) :
  Calls Tryz.prog 121 #[.int .i64 n, .int .i64 d] w fun e w' => (∃ v, e = .returned v ∧ Fra w' v (Rat.divInt n d)) ∧ Below w.heap.size w w' := by
 have H1 := Lib.hid (fun W => refFromInt_any n h1 h2 W)
 have H2 := Lib.hid (fun W => refFromInt_any d (by omega) (by omega) W)
 have hl : (dig n.natAbs).length ≤ 16384 := Nat.le_trans ((length_dig_le _ 4).2 (by show n.natAbs < 18446744073709551616; omega)) (by decide)
 have HL := Lib.hid (fun bn an kn cn bd ad kd cd W nn nd => Lowest_any bn an kn cn bd ad kd cd n d hl hd0 hd2 W nn nd)
 clear h1 h2 hl hd0 hd2
 have hB := Below.refl w.heap.size w
 obtain ⟨al, xr, hN⟩ := mk hB #[.bool false, .slice none 0 0, .bool false, .slice none 0 0] 39
 replace hB := hN; clear al hN
 try simp only [World.size_alloc] at xr
 go_enter Tryz.func121, Tryz.ntmps121
 have pr := xr.all4
 go_wp2_with fail
 clear pr
 refine (H1.out _).mono ?_
 rintro e w1 ⟨⟨v, rfl, gn⟩, hb⟩
 obtain ⟨b1, a1, k1, c1, rfl⟩ := gn.num.opened
 replace gn := gn.num; replace xr := xr.on hb
 have hz1 := hb.size
 try simp at hz1
 replace hB := hB.trans (hb.mono hB.size); clear hb
 have pr := xr.all4
 go_wp2_with fail
 clear pr
 refine (H2.out _).mono ?_
 rintro e w2 ⟨⟨v2, rfl, gd⟩, hb⟩
 obtain ⟨b2, a2, k2, c2, rfl⟩ := gd.num.opened
 replace gd := gd.num; replace xr := xr.on hb; replace gn := gn.on hb
 have hz2 := hb.size
 try simp at hz2
 replace hB := hB.trans (hb.mono hB.size); clear hb
 have pr := xr.all4
 go_wp2_with fail
 clear pr
 refine (HL.out _ _ _ _ _ _ _ _ _ gn gd).mono ?_
 rintro e w3 ⟨⟨v3, rfl, gf⟩, hb⟩
 obtain ⟨b5, a5, k5, c5, b6, a6, k6, c6, rfl⟩ := gf.opened
 replace xr := xr.on hb; replace gn := gn.on hb; replace gd := gd.on hb
 have hz3 := hb.size
 try simp at hz3
 replace hB := hB.trans (hb.mono hB.size); clear hb gn gd
 have pr := xr.all4
 go_wp2_with fail
 clear pr; replace gf := gf.setB4 xr rfl (.bool b5) (.slice a5 k5 c5) (.bool b6) (.slice a6 k6 c6) rfl; replace xr := xr.put4 (.bool b5) (.slice a5 k5 c5) (.bool b6) (.slice a6 k6 c6); replace hB := below4 hB w.heap.size (by first | omega | (simp; omega) | simp) (.bool b5) (.slice a5 k5 c5) (.bool b6) (.slice a6 k6 c6)
 generalize ((((w3.setCell ⟨w.heap.size, 0, none⟩ (.bool b5)).setCell ⟨w.heap.size, 1, none⟩ (.slice a5 k5 c5)).setCell ⟨w.heap.size, 2, none⟩ (.bool b6)).setCell ⟨w.heap.size, 3, none⟩ (.slice a6 k6 c6)) = WF at *
 have pr := xr.all4
 exact bodyPost_ret (v := .agg #[.bool b5, .slice a5 k5 c5, .bool b6, .slice a6 k6 c6]) (by simp [results, Tryz.results121, go_sem, pr]) rfl ⟨⟨_, rfl, gf⟩, hB⟩
theorem quick_any (n d : Int) (h1 : -9223372036854775808 ≤ n) (h2 : n ≤ 9223372036854775807) (hd0 : d ≠ 0) (hd2 : d.natAbs < 65536) (w : World) :
  Calls Tryz.prog 38 #[.int .i64 n, .int .i64 d] w fun e w' => (∃ v, e = .returned v ∧ Fra w' v (Rat.divInt n d)) ∧ Below w.heap.size w w' := by
 have HQ := Lib.hid (fun W => Quick_any n d h1 h2 hd0 hd2 W)
 clear h1 h2 hd0 hd2
 have hB := Below.refl w.heap.size w
 obtain ⟨al, xr, hN⟩ := mk hB #[.bool false, .slice none 0 0, .bool false, .slice none 0 0] 39
 replace hB := hN; clear al hN
 try simp only [World.size_alloc] at xr
 go_enter Tryz.func38, Tryz.ntmps38
 have pr := xr.all4
 go_wp2_with fail
 clear pr
 refine (HQ.out _).mono ?_
 rintro e w1 ⟨⟨v3, rfl, gf⟩, hb⟩
 obtain ⟨b5, a5, k5, c5, b6, a6, k6, c6, rfl⟩ := gf.opened
 replace xr := xr.on hb
 have hz1 := hb.size
 try simp at hz1
 replace hB := hB.trans (hb.mono hB.size); clear hb
 have pr := xr.all4
 go_wp2_with fail
 clear pr; replace gf := gf.setB4 xr rfl (.bool b5) (.slice a5 k5 c5) (.bool b6) (.slice a6 k6 c6) rfl; replace xr := xr.put4 (.bool b5) (.slice a5 k5 c5) (.bool b6) (.slice a6 k6 c6); replace hB := below4 hB w.heap.size (by first | omega | (simp; omega) | simp) (.bool b5) (.slice a5 k5 c5) (.bool b6) (.slice a6 k6 c6)
 generalize ((((w1.setCell ⟨w.heap.size, 0, none⟩ (.bool b5)).setCell ⟨w.heap.size, 1, none⟩ (.slice a5 k5 c5)).setCell ⟨w.heap.size, 2, none⟩ (.bool b6)).setCell ⟨w.heap.size, 3, none⟩ (.slice a6 k6 c6)) = WF at *
 have pr := xr.all4
 exact bodyPost_ret (v := .agg #[.bool b5, .slice a5 k5 c5, .bool b6, .slice a6 k6 c6]) (by simp [results, Tryz.results38, go_sem, pr]) rfl ⟨⟨_, rfl, gf⟩, hB⟩
end Go.Proofs.YtmbcnfogjncdaaaGreat
