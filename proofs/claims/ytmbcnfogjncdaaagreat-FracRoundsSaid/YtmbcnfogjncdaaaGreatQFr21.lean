/- A part of the proofs about fractions. -/
import Derived.Test.YtmbcnfogjncdaaaGreatQFr1
import Derived.Test.YtmbcnfogjncdaaaGreatQFr20
set_option maxRecDepth 100000
set_option maxHeartbeats 2000000
namespace Go.Proofs.YtmbcnfogjncdaaaGreat
open Go.RowKit Wh
theorem Bk.ne {W : World} {B B' : Nat} {C C' : Array Value} {T T' : TypeId} (h : Bk W B C T) (g : Bk W B' C' T') (hT : T ≠ T') : B ≠ B' := fun e => by
 subst e
 unfold Bk at h g
 rw [h] at g
 simp only [Option.some.injEq, Obj.cells.injEq] at g
 exact hT g.2.1
theorem rfac_sz {n d : Int} (neg : Bool) (m : Nat) (h : Sz 512 n) (hd : 0 < d) : Sz 513 (rfac neg n d m) := by
 have h1 := rfac_le neg n d m hd
 have h2 : Sz 513 ((n.natAbs : Int) + 1) := Sz.add (h.le (by omega)) (Sz.small (z := 1) (by decide))
 exact h2.le (by omega)
theorem factor_any (q u : Rat) (b : Bool) (a : Option Addr) (k c : Nat) (b' : Bool) (a' : Option Addr) (k' c' : Nat) (ub : Bool) (ua : Option Addr) (uk uc : Nat) (ub' : Bool) (ua' : Option Addr) (uk' uc' : Nat) (hp : Fz 256 256 q) (hu : Fz 256 256 u) (hu0 : 0 < u.num) (m : Nat) (hm1 : 1 ≤ m) (hm2 : m ≤ 6) (w : World) (h : Fra w (.agg #[.bool b, .slice a k c, .bool b', .slice a' k' c']) q) (g : Fra w (.agg #[.bool ub, .slice ua uk uc, .bool ub', .slice ua' uk' uc']) u) :
    Calls Tryz.prog 116 #[.agg #[.bool b, .slice a k c, .bool b', .slice a' k' c'], .agg #[.bool ub, .slice ua uk uc, .bool ub', .slice ua' uk' uc'], .int .u8 (m : Int)] w fun e w' => (∃ v, e = .returned v ∧ Num w' v (rfac (decide (q.num < 0)) (q.num * u.den) (q.den * u.num) m)) ∧ Below w.heap.size w w' := by
  have eb := (fra_nums h).1
  by_cases h0 : q.num * (u.den : Int) % ((q.den : Int) * u.num) = 0
  · have := factor_0 q u b a k c b' a' k' c' ub ua uk uc ub' ua' uk' uc' hp hu hu0 (m : Int) h0 w h g
    unfold rfac
    rw [if_pos h0]
    exact this
  · unfold rfac
    rw [if_neg h0, ← eb]
    have hc : m = 1 ∨ m = 2 ∨ m = 3 ∨ m = 4 ∨ m = 5 ∨ m = 6 := by omega
    rcases hc with rfl | rfl | rfl | rfl | rfl | rfl
    · cases hr : rup 1 b (q.num * (u.den : Int) % ((q.den : Int) * u.num) + q.num * (u.den : Int) % ((q.den : Int) * u.num)) ((q.den : Int) * u.num) (q.num * (u.den : Int) / ((q.den : Int) * u.num)) with
      | true => rw [if_pos rfl]; exact factor_1true q u b a k c b' a' k' c' ub ua uk uc ub' ua' uk' uc' hp hu hu0 h0 hr w h g
      | false => rw [if_neg Bool.false_ne_true]; exact factor_1false q u b a k c b' a' k' c' ub ua uk uc ub' ua' uk' uc' hp hu hu0 h0 hr w h g
    · cases hr : rup 2 b (q.num * (u.den : Int) % ((q.den : Int) * u.num) + q.num * (u.den : Int) % ((q.den : Int) * u.num)) ((q.den : Int) * u.num) (q.num * (u.den : Int) / ((q.den : Int) * u.num)) with
      | true => rw [if_pos rfl]; exact factor_2true q u b a k c b' a' k' c' ub ua uk uc ub' ua' uk' uc' hp hu hu0 h0 hr w h g
      | false => rw [if_neg Bool.false_ne_true]; exact factor_2false q u b a k c b' a' k' c' ub ua uk uc ub' ua' uk' uc' hp hu hu0 h0 hr w h g
    · exact factor_3false q u b a k c b' a' k' c' ub ua uk uc ub' ua' uk' uc' hp hu hu0 h0 w h g
    · exact factor_4true q u b a k c b' a' k' c' ub ua uk uc ub' ua' uk' uc' hp hu hu0 h0 w h g
    · cases hr : rup 5 b (q.num * (u.den : Int) % ((q.den : Int) * u.num) + q.num * (u.den : Int) % ((q.den : Int) * u.num)) ((q.den : Int) * u.num) (q.num * (u.den : Int) / ((q.den : Int) * u.num)) with
      | true => rw [if_pos rfl]; exact factor_5true q u b a k c b' a' k' c' ub ua uk uc ub' ua' uk' uc' hp hu hu0 h0 hr w h g
      | false => rw [if_neg Bool.false_ne_true]; exact factor_5false q u b a k c b' a' k' c' ub ua uk uc ub' ua' uk' uc' hp hu hu0 h0 hr w h g
    · cases hr : rup 6 b (q.num * (u.den : Int) % ((q.den : Int) * u.num) + q.num * (u.den : Int) % ((q.den : Int) * u.num)) ((q.den : Int) * u.num) (q.num * (u.den : Int) / ((q.den : Int) * u.num)) with
      | true => rw [if_pos rfl]; exact factor_6true q u b a k c b' a' k' c' ub ua uk uc ub' ua' uk' uc' hp hu hu0 h0 hr w h g
      | false => rw [if_neg Bool.false_ne_true]; exact factor_6false q u b a k c b' a' k' c' ub ua uk uc ub' ua' uk' uc' hp hu hu0 h0 hr w h g
theorem frRound_ok (q u : Rat) (b : Bool) (a : Option Addr) (k c : Nat) (b' : Bool) (a' : Option Addr) (k' c' : Nat) (ub : Bool) (ua : Option Addr) (uk uc : Nat) (ub' : Bool) (ua' : Option Addr) (uk' uc' : Nat) (hq : Fz 256 256 q) (hu : Fz 256 256 u) (hu0 : 0 < u.num) (m : Nat) (hm1 : 1 ≤ m) (hm2 : m ≤ 6) (hz : Fz 256 256 (rnd q u m)) (w : World) (h : Fra w (.agg #[.bool b, .slice a k c, .bool b', .slice a' k' c']) q) (g : Fra w (.agg #[.bool ub, .slice ua uk uc, .bool ub', .slice ua' uk' uc']) u) :
    Calls Tryz.prog 34 #[.agg #[.bool b, .slice a k c, .bool b', .slice a' k' c'], .agg #[.bool ub, .slice ua uk uc, .bool ub', .slice ua' uk' uc'], .int .u8 (m : Int)] w fun e w' => (∃ v, e = .returned (.tuple #[v, .int .i64 0]) ∧ Fra w' v (rnd q u m)) ∧ Below w.heap.size w w' := by
  have HV1 := Lib.hid (fun W (hW : Below w.heap.size w W) => valid_ok (.agg #[.bool b, .slice a k c, .bool b', .slice a' k' c']) q hq W (h.below hW (Nat.le_refl _)))
  have HV2 := Lib.hid (fun W (hW : Below w.heap.size w W) => valid_ok (.agg #[.bool ub, .slice ua uk uc, .bool ub', .slice ua' uk' uc']) u hu W (g.below hW (Nat.le_refl _)))
  obtain ⟨eb, eb', n1, n2⟩ := fra_nums g
  have hz0 := fun W (hW : Below w.heap.size w W) => isZero_num _ u.num W (n1.below hW (Nat.le_refl _))
  rw [show decide (u.num = 0) = false from decide_eq_false (by omega)] at hz0
  have HZ := Lib.hid hz0
  have hn0 := fun W => negative_any ub ua uk uc ub' ua' uk' uc' W
  have eu : ub = false := by rw [eb]; exact decide_eq_false (by omega)
  simp only [show Ending.returned (.bool ub) = Ending.returned (.bool false) from by rw [eu]] at hn0
  have HN := Lib.hid hn0
  clear hn0 eu
  have HF := Lib.hid (fun W (hW : Below w.heap.size w W) => factor_any q u b a k c b' a' k' c' ub ua uk uc ub' ua' uk' uc' hq hu hu0 m hm1 hm2 W (h.below hW (Nat.le_refl _)) (g.below hW (Nat.le_refl _)))
  have hk : Sz 513 (rfac (decide (q.num < 0)) (q.num * u.den) (q.den * u.num) m) := rfac_sz (decide (q.num < 0)) m (Sz.mul hq.1 hu.2) (Int.mul_pos (by have := q.den_pos; omega) hu0)
  obtain ⟨h2, h2d⟩ := hu
  have HT := Lib.hid (fun v W (hW : Below w.heap.size w W) gk => frtimes_any v (.agg #[.bool ub, .slice ua uk uc]) (rfac (decide (q.num < 0)) (q.num * u.den) (q.den * u.num) m) u.num _ rfl (hk.mono (by decide)) (h2.mono (by decide)) ((Sz.mul hk h2).mono (by decide)) W gk (n1.below hW (Nat.le_refl _)))
  have HM := Lib.hid (fun bn an kn cn W gp (hW : Below w.heap.size w W) => Make_okk bn an kn cn ub' ua' uk' uc' _ (u.den : Int) (rnd q u m) rfl ((Sz.mul hk h2).mono (by decide)) (h2d.mono (by decide)) (by have := u.den_pos; omega) hz W gp (n2.below hW (Nat.le_refl _)))
  clear hk h2 h2d hz h g n1 n2 eb eb' hz0 hq
  try clear hu0
  have hB := Below.refl w.heap.size w
  obtain ⟨al, xa, hN⟩ := mk hB #[.bool b, .slice a k c, .bool b', .slice a' k' c'] 39
  replace hB := hN; clear al hN
  try simp only [World.size_alloc] at xa
  obtain ⟨al, xb, hN⟩ := mk hB #[.bool ub, .slice ua uk uc, .bool ub', .slice ua' uk' uc'] 39
  replace xa := xa.on al; replace hB := hN; clear al hN
  try simp only [World.size_alloc] at xb
  obtain ⟨al, xr, hN⟩ := mk hB #[.bool false, .slice none 0 0, .bool false, .slice none 0 0] 39
  replace xa := xa.on al; replace xb := xb.on al; replace hB := hN; clear al hN
  try simp only [World.size_alloc] at xr
  go_enter Tryz.func34, Tryz.ntmps34
  go_upto_region 1 with fail
  have xa1 := xa
  obtain ⟨W0, hW0⟩ : ∃ W, W = (((w.alloc (.cells #[.bool b, .slice a k c, .bool b', .slice a' k' c'] 39)).alloc (.cells #[.bool ub, .slice ua uk uc, .bool ub', .slice ua' uk' uc'] 39)).alloc (.cells #[.bool false, .slice none 0 0, .bool false, .slice none 0 0] 39)) := ⟨_, rfl⟩
  rw [← hW0] at hB xa xb xr ⊢
  clear hW0
  have q0 := xa.lt
  have q1 := xb.lt
  have a0 := xa.cell 0
  have b0 := xb.cell 0
  have a1 := xa.cell 1
  have b1 := xb.cell 1
  have a2 := xa.cell 2
  have b2 := xb.cell 2
  have a3 := xa.cell 3
  have b3 := xb.cell 3
  simp only [List.getElem?_toArray, List.getElem?_cons_zero, List.getElem?_cons_succ] at a0 a1 a2 a3 b0 b1 b2 b3
  clear xa xb xa1
  go_cut [8, 9] (fun s8 s9 wx => ∃ BX BY : Nat, s8 = .pointer (some ⟨BX, 0, none⟩) ∧ s9 = .pointer (some ⟨BY, 0, none⟩) ∧ Bk wx BX #[.bool b, .slice a k c, .bool b', .slice a' k' c'] 101 ∧ Bk wx BY #[.bool ub, .slice ua uk uc, .bool ub', .slice ua' uk' uc'] 101 ∧ Below W0.heap.size W0 wx)
  case first =>
    go_region
    all_goals (go_wp2_with fail; go_meet)
    · obtain ⟨t1, t2, t3⟩ := frpair_new W0 #[.bool b, .slice a k c, .bool b', .slice a' k' c'] #[.bool ub, .slice ua uk uc, .bool ub', .slice ua' uk' uc'] 101
      exact ⟨_, _, rfl, rfl, t1, t2, t3⟩
    · obtain ⟨t1, t2, t3⟩ := frpair_new W0 #[.bool ub, .slice ua uk uc, .bool ub', .slice ua' uk' uc'] #[.bool b, .slice a k c, .bool b', .slice a' k' c'] 101
      exact ⟨_, _, rfl, rfl, t2, t1, t3⟩
  case rest =>
    obtain ⟨BX, BY, rfl, rfl, xx, xy, hb⟩ := hcut
    replace xr := xr.on hb; replace hB := hB.trans (hb.mono hB.size)
    have hz0 := hb.size
    clear hb q0 q1 a0 a1 a2 a3 b0 b1 b2 b3
    have neX : BX ≠ w.heap.size + 1 + 1 := Bk.ne xx xr (by decide)
    have neY : BY ≠ w.heap.size + 1 + 1 := Bk.ne xy xr (by decide)
    have pr := xr.all4
    have px := xx.all4
    have py := xy.all4
    go_wp2_with fail
    clear pr px py
    refine (HV1.out _ hB).mono ?_
    rintro e w1 ⟨rfl, hb⟩
    replace xr := xr.on hb; replace xx := xx.on hb; replace xy := xy.on hb
    have hz1 := hb.size
    try simp at hz1
    replace hB := hB.trans (hb.mono hB.size); clear hb
    have pr := xr.all4
    have px := xx.all4
    have py := xy.all4
    go_wp2_with fail
    clear pr px py
    refine (HV2.out _ hB).mono ?_
    rintro e w2 ⟨rfl, hb⟩
    replace xr := xr.on hb; replace xx := xx.on hb; replace xy := xy.on hb
    have hz2 := hb.size
    try simp at hz2
    replace hB := hB.trans (hb.mono hB.size); clear hb
    have pr := xr.all4
    have px := xx.all4
    have py := xy.all4
    go_wp2_with fail
    clear pr px py
    refine (HZ.out _ hB).mono ?_
    rintro e w3 ⟨rfl, hb⟩
    replace xr := xr.on hb; replace xx := xx.on hb; replace xy := xy.on hb
    have hz3 := hb.size
    try simp at hz3
    replace hB := hB.trans (hb.mono hB.size); clear hb
    have pr := xr.all4
    have px := xx.all4
    have py := xy.all4
    go_wp2_with fail
    clear pr px py
    refine (HN.out _).mono ?_
    rintro e w4 ⟨rfl, hb⟩
    replace xr := xr.on hb; replace xx := xx.on hb; replace xy := xy.on hb
    have hz4 := hb.size
    try simp at hz4
    replace hB := hB.trans (hb.mono hB.size); clear hb
    have pr := xr.all4
    have px := xx.all4
    have py := xy.all4
    go_wp2_with fail
    clear pr px py
    have qx := xx.lt
    have qy := xy.lt
    obtain ⟨gx0, gx1, gx2, gx3⟩ := xx.cells4
    obtain ⟨gy0, gy1, gy2, gy3⟩ := xy.cells4
    refine wp_region_noPanic ?_
    refine wp_region_held_drew (S := (fun w' => (w'.cell? ⟨BX, 0, none⟩ = some (.bool b) ∧ w'.cell? ⟨BX, 1, none⟩ = some (.slice a k c) ∧ w'.cell? ⟨BX, 2, none⟩ = some (.bool b') ∧ w'.cell? ⟨BX, 3, none⟩ = some (.slice a' k' c')) ∧ w'.cell? ⟨BY, 0, none⟩ = some (.bool ub) ∧ w'.cell? ⟨BY, 1, none⟩ = some (.slice ua uk uc) ∧ w'.cell? ⟨BY, 2, none⟩ = some (.bool ub') ∧ w'.cell? ⟨BY, 3, none⟩ = some (.slice ua' uk' uc'))) (by kernel_rfl) ⟨⟨gx0, gx1, gx2, gx3⟩, ⟨gy0, gy1, gy2, gy3⟩⟩ (fun hR0 => ?_)
    change wpAnyH _ _ _ _ _ 16 #[false, false, false, false, false, false, false, false, false, false, false, false, false, false, false, false] _ _
    clear gx0 gx1 gx2 gx3 gy0 gy1 gy2 gy3
    refine tz 0 ?_
    (try simp only [Act.put, sa, List.set])
    refine tz 1 ?_
    (try simp only [Act.put, sa, List.set])
    refine tz 2 ?_
    (try simp only [Act.put, sa, List.set])
    refine tz 4 ?_
    (try simp only [Act.put, sa, List.set])
    refine tz 5 ?_
    (try simp only [Act.put, sa, List.set])
    refine tz 6 ?_
    (try simp only [Act.put, sa, List.set])
    refine tz 8 ?_
    (try simp only [Act.put, sa, List.set])
    refine tz 9 ?_
    (try simp only [Act.put, sa, List.set])
    refine tz 10 ?_
    (try simp only [Act.put, sa, List.set])
    refine rz 3 fun K hK => ?_
    go_simp
    go_at_call 116; have hBd := hB.drew; refine (HF.out _ hBd).mono ?_; rintro e w5 ⟨⟨v1, rfl, gk⟩, hb⟩; replace hb := (Below.refl w4.heap.size w4).drew.trans hb; obtain ⟨b1, a1, k1, c1, rfl⟩ := gk.opened; replace xr := xr.on hb; replace xx := xx.on hb; replace xy := xy.on hb; replace hB := hB.trans (hb.mono hB.size); have hz5 := hb.size
    (try go_wp2_with fail)
    refine hK.out _ _ (⟨keep4 hb qx hR0.1, keep4 hb qy hR0.2⟩) (fun hR1 => ?_)
    clear hK K hR0
    (try simp only [Act.put, sa, List.set])
    replace qx := Nat.lt_of_lt_of_le qx hz5; replace qy := Nat.lt_of_lt_of_le qy hz5; clear hb hBd
    refine rz 7 fun K hK => ?_
    go_simp
    go_at_call 115; have hBd := hB; refine (HT.out _ _ hBd gk).mono ?_; rintro e w6 ⟨⟨v2, rfl, gp⟩, hb⟩; obtain ⟨b2, a2, k2, c2, rfl⟩ := gp.num.opened; replace gp := gp.num; replace xr := xr.on hb; replace xx := xx.on hb; replace xy := xy.on hb; replace hB := hB.trans (hb.mono hB.size); have hz6 := hb.size
    (try go_wp2_with fail)
    refine hK.out _ _ (⟨keep4 hb qx hR1.1, keep4 hb qy hR1.2⟩) (fun hR2 => ?_)
    clear hK K hR1
    (try simp only [Act.put, sa, List.set])
    replace qx := Nat.lt_of_lt_of_le qx hz6; replace qy := Nat.lt_of_lt_of_le qy hz6; clear hb hBd
    refine rz 11 fun K hK => ?_
    go_simp
    go_at_call 24; have hBd := hB; refine (HM.out _ _ _ _ _ gp hBd).mono ?_; rintro e w7 ⟨⟨v3, rfl, gm⟩, hb⟩; obtain ⟨b5, a5, k5, c5, b6, a6, k6, c6, rfl⟩ := gm.fra.opened; replace gm := gm.fra; replace xr := xr.on hb; replace xx := xx.on hb; replace xy := xy.on hb; replace hB := hB.trans (hb.mono hB.size); have hz7 := hb.size
    (try go_wp2_with fail)
    refine hK.out _ _ (⟨keep4 hb qx hR2.1, keep4 hb qy hR2.2⟩) (fun hR3 => ?_)
    clear hK K hR2
    (try simp only [Act.put, sa, List.set])
    replace qx := Nat.lt_of_lt_of_le qx hz7; replace qy := Nat.lt_of_lt_of_le qy hz7; clear hb hBd
    refine tz 12 ?_
    (try simp only [Act.put, sa, List.set])
    refine tz 13 ?_
    (try simp only [Act.put, sa, List.set])
    have pr := xr.all4
    refine rz 14 fun K hK => ?_
    go_simp
    refine hK.out _ _ (⟨stay4 hR3.1 (by omega), stay4 hR3.2 (by omega)⟩) (fun hR4 => ?_)
    clear hK K hR3
    (try simp only [Act.put, sa, List.set])
    clear pr; replace gm := gm.setB4 xr rfl (.bool b5) (.slice a5 k5 c5) (.bool b6) (.slice a6 k6 c6) rfl; replace xx := xx.put_other4 (w.heap.size + 1 + 1) (.bool b5) (.slice a5 k5 c5) (.bool b6) (.slice a6 k6 c6) (by omega); replace xy := xy.put_other4 (w.heap.size + 1 + 1) (.bool b5) (.slice a5 k5 c5) (.bool b6) (.slice a6 k6 c6) (by omega); replace xr := xr.put4 (.bool b5) (.slice a5 k5 c5) (.bool b6) (.slice a6 k6 c6); replace hB := below4 hB (w.heap.size + 1 + 1) (by first | omega | (simp; omega) | simp) (.bool b5) (.slice a5 k5 c5) (.bool b6) (.slice a6 k6 c6)
    refine tz 15 ?_
    (try simp only [Act.put, sa, List.set])
    refine wpAnyH_done (by kernel_rfl) ?_ _
    refine NoPanic.normal ?_
    clear hR4 qx qy xx xy
    generalize ((((w7.setCell ⟨w.heap.size + 1 + 1, 0, none⟩ (.bool b5)).setCell ⟨w.heap.size + 1 + 1, 1, none⟩ (.slice a5 k5 c5)).setCell ⟨w.heap.size + 1 + 1, 2, none⟩ (.bool b6)).setCell ⟨w.heap.size + 1 + 1, 3, none⟩ (.slice a6 k6 c6)) = WF at *
    have pr := xr.all4
    go_wp2
    exact bodyPost_ret (v := .tuple #[.agg #[.bool b5, .slice a5 k5 c5, .bool b6, .slice a6 k6 c6], .int .i64 0]) (by simp [results, Tryz.results34, go_sem, pr]) rfl ⟨⟨_, rfl, gm⟩, hB⟩
theorem frRound_zero (q u : Rat) (b : Bool) (a : Option Addr) (k c : Nat) (b' : Bool) (a' : Option Addr) (k' c' : Nat) (ub : Bool) (ua : Option Addr) (uk uc : Nat) (ub' : Bool) (ua' : Option Addr) (uk' uc' : Nat) (hq : Fz 256 256 q) (hu : Fz 256 256 u) (hu0 : u.num = 0) (m : Nat) (hm1 : 1 ≤ m) (hm2 : m ≤ 6) (w : World) (h : Fra w (.agg #[.bool b, .slice a k c, .bool b', .slice a' k' c']) q) (g : Fra w (.agg #[.bool ub, .slice ua uk uc, .bool ub', .slice ua' uk' uc']) u) :
    Calls Tryz.prog 34 #[.agg #[.bool b, .slice a k c, .bool b', .slice a' k' c'], .agg #[.bool ub, .slice ua uk uc, .bool ub', .slice ua' uk' uc'], .int .u8 (m : Int)] w fun e w' => e = .returned (.tuple #[zeroF, .int .i64 20]) ∧ Below w.heap.size w w' := by
  have HV1 := Lib.hid (fun W (hW : Below w.heap.size w W) => valid_ok (.agg #[.bool b, .slice a k c, .bool b', .slice a' k' c']) q hq W (h.below hW (Nat.le_refl _)))
  have HV2 := Lib.hid (fun W (hW : Below w.heap.size w W) => valid_ok (.agg #[.bool ub, .slice ua uk uc, .bool ub', .slice ua' uk' uc']) u hu W (g.below hW (Nat.le_refl _)))
  obtain ⟨eb, eb', n1, n2⟩ := fra_nums g
  have hz0 := fun W (hW : Below w.heap.size w W) => isZero_num _ u.num W (n1.below hW (Nat.le_refl _))
  rw [show decide (u.num = 0) = true from decide_eq_true (by omega)] at hz0
  have HZ := Lib.hid hz0
  clear h g n1 n2 eb eb' hz0 hq hu
  try clear hu0
  have hB := Below.refl w.heap.size w
  obtain ⟨al, xa, hN⟩ := mk hB #[.bool b, .slice a k c, .bool b', .slice a' k' c'] 39
  replace hB := hN; clear al hN
  try simp only [World.size_alloc] at xa
  obtain ⟨al, xb, hN⟩ := mk hB #[.bool ub, .slice ua uk uc, .bool ub', .slice ua' uk' uc'] 39
  replace xa := xa.on al; replace hB := hN; clear al hN
  try simp only [World.size_alloc] at xb
  obtain ⟨al, xr, hN⟩ := mk hB #[.bool false, .slice none 0 0, .bool false, .slice none 0 0] 39
  replace xa := xa.on al; replace xb := xb.on al; replace hB := hN; clear al hN
  try simp only [World.size_alloc] at xr
  go_enter Tryz.func34, Tryz.ntmps34
  go_upto_region 1 with fail
  have xa1 := xa
  obtain ⟨W0, hW0⟩ : ∃ W, W = (((w.alloc (.cells #[.bool b, .slice a k c, .bool b', .slice a' k' c'] 39)).alloc (.cells #[.bool ub, .slice ua uk uc, .bool ub', .slice ua' uk' uc'] 39)).alloc (.cells #[.bool false, .slice none 0 0, .bool false, .slice none 0 0] 39)) := ⟨_, rfl⟩
  rw [← hW0] at hB xa xb xr ⊢
  clear hW0
  have q0 := xa.lt
  have q1 := xb.lt
  have a0 := xa.cell 0
  have b0 := xb.cell 0
  have a1 := xa.cell 1
  have b1 := xb.cell 1
  have a2 := xa.cell 2
  have b2 := xb.cell 2
  have a3 := xa.cell 3
  have b3 := xb.cell 3
  simp only [List.getElem?_toArray, List.getElem?_cons_zero, List.getElem?_cons_succ] at a0 a1 a2 a3 b0 b1 b2 b3
  clear xa xb xa1
  go_cut [8, 9] (fun s8 s9 wx => ∃ BX BY : Nat, s8 = .pointer (some ⟨BX, 0, none⟩) ∧ s9 = .pointer (some ⟨BY, 0, none⟩) ∧ Bk wx BX #[.bool b, .slice a k c, .bool b', .slice a' k' c'] 101 ∧ Bk wx BY #[.bool ub, .slice ua uk uc, .bool ub', .slice ua' uk' uc'] 101 ∧ Below W0.heap.size W0 wx)
  case first =>
    go_region
    all_goals (go_wp2_with fail; go_meet)
    · obtain ⟨t1, t2, t3⟩ := frpair_new W0 #[.bool b, .slice a k c, .bool b', .slice a' k' c'] #[.bool ub, .slice ua uk uc, .bool ub', .slice ua' uk' uc'] 101
      exact ⟨_, _, rfl, rfl, t1, t2, t3⟩
    · obtain ⟨t1, t2, t3⟩ := frpair_new W0 #[.bool ub, .slice ua uk uc, .bool ub', .slice ua' uk' uc'] #[.bool b, .slice a k c, .bool b', .slice a' k' c'] 101
      exact ⟨_, _, rfl, rfl, t2, t1, t3⟩
  case rest =>
    obtain ⟨BX, BY, rfl, rfl, xx, xy, hb⟩ := hcut
    replace xr := xr.on hb; replace hB := hB.trans (hb.mono hB.size)
    have hz0 := hb.size
    clear hb q0 q1 a0 a1 a2 a3 b0 b1 b2 b3
    have neX : BX ≠ w.heap.size + 1 + 1 := Bk.ne xx xr (by decide)
    have neY : BY ≠ w.heap.size + 1 + 1 := Bk.ne xy xr (by decide)
    have pr := xr.all4
    have px := xx.all4
    have py := xy.all4
    go_wp2_with fail
    clear pr px py
    refine (HV1.out _ hB).mono ?_
    rintro e w1 ⟨rfl, hb⟩
    replace xr := xr.on hb; replace xx := xx.on hb; replace xy := xy.on hb
    have hz1 := hb.size
    try simp at hz1
    replace hB := hB.trans (hb.mono hB.size); clear hb
    have pr := xr.all4
    have px := xx.all4
    have py := xy.all4
    go_wp2_with fail
    clear pr px py
    refine (HV2.out _ hB).mono ?_
    rintro e w2 ⟨rfl, hb⟩
    replace xr := xr.on hb; replace xx := xx.on hb; replace xy := xy.on hb
    have hz2 := hb.size
    try simp at hz2
    replace hB := hB.trans (hb.mono hB.size); clear hb
    have pr := xr.all4
    have px := xx.all4
    have py := xy.all4
    go_wp2_with fail
    clear pr px py
    refine (HZ.out _ hB).mono ?_
    rintro e w3 ⟨rfl, hb⟩
    replace xr := xr.on hb; replace xx := xx.on hb; replace xy := xy.on hb
    have hz3 := hb.size
    try simp at hz3
    replace hB := hB.trans (hb.mono hB.size); clear hb
    have pr := xr.all4
    have px := xx.all4
    have py := xy.all4
    go_wp2_with fail
    clear pr px py xx xy; replace xr := xr.put4 (.bool false) (.slice none 0 0) (.bool false) (.slice none 0 0); replace hB := below4 hB (w.heap.size + 1 + 1) (by first | omega | (simp; omega) | simp) (.bool false) (.slice none 0 0) (.bool false) (.slice none 0 0)
    generalize ((((w3.setCell ⟨w.heap.size + 1 + 1, 0, none⟩ (.bool false)).setCell ⟨w.heap.size + 1 + 1, 1, none⟩ (.slice none 0 0)).setCell ⟨w.heap.size + 1 + 1, 2, none⟩ (.bool false)).setCell ⟨w.heap.size + 1 + 1, 3, none⟩ (.slice none 0 0)) = WF at *
    have pr := xr.all4
    exact bodyPost_ret (v := .tuple #[.agg #[.bool false, .slice none 0 0, .bool false, .slice none 0 0], .int .i64 20]) (by simp [results, Tryz.results34, go_sem, pr]) rfl ⟨rfl, hB⟩
theorem frRound_neg (q u : Rat) (b : Bool) (a : Option Addr) (k c : Nat) (b' : Bool) (a' : Option Addr) (k' c' : Nat) (ub : Bool) (ua : Option Addr) (uk uc : Nat) (ub' : Bool) (ua' : Option Addr) (uk' uc' : Nat) (hq : Fz 256 256 q) (hu : Fz 256 256 u) (hu0 : u.num < 0) (m : Nat) (hm1 : 1 ≤ m) (hm2 : m ≤ 6) (w : World) (h : Fra w (.agg #[.bool b, .slice a k c, .bool b', .slice a' k' c']) q) (g : Fra w (.agg #[.bool ub, .slice ua uk uc, .bool ub', .slice ua' uk' uc']) u) :
    Calls Tryz.prog 34 #[.agg #[.bool b, .slice a k c, .bool b', .slice a' k' c'], .agg #[.bool ub, .slice ua uk uc, .bool ub', .slice ua' uk' uc'], .int .u8 (m : Int)] w fun e w' => e = .returned (.tuple #[zeroF, .int .i64 20]) ∧ Below w.heap.size w w' := by
  have HV1 := Lib.hid (fun W (hW : Below w.heap.size w W) => valid_ok (.agg #[.bool b, .slice a k c, .bool b', .slice a' k' c']) q hq W (h.below hW (Nat.le_refl _)))
  have HV2 := Lib.hid (fun W (hW : Below w.heap.size w W) => valid_ok (.agg #[.bool ub, .slice ua uk uc, .bool ub', .slice ua' uk' uc']) u hu W (g.below hW (Nat.le_refl _)))
  obtain ⟨eb, eb', n1, n2⟩ := fra_nums g
  have hz0 := fun W (hW : Below w.heap.size w W) => isZero_num _ u.num W (n1.below hW (Nat.le_refl _))
  rw [show decide (u.num = 0) = false from decide_eq_false (by omega)] at hz0
  have HZ := Lib.hid hz0
  have hn0 := fun W => negative_any ub ua uk uc ub' ua' uk' uc' W
  have eu : ub = true := by rw [eb]; exact decide_eq_true (by omega)
  simp only [show Ending.returned (.bool ub) = Ending.returned (.bool true) from by rw [eu]] at hn0
  have HN := Lib.hid hn0
  clear hn0 eu h g n1 n2 eb eb' hz0 hq hu
  try clear hu0
  have hB := Below.refl w.heap.size w
  obtain ⟨al, xa, hN⟩ := mk hB #[.bool b, .slice a k c, .bool b', .slice a' k' c'] 39
  replace hB := hN; clear al hN
  try simp only [World.size_alloc] at xa
  obtain ⟨al, xb, hN⟩ := mk hB #[.bool ub, .slice ua uk uc, .bool ub', .slice ua' uk' uc'] 39
  replace xa := xa.on al; replace hB := hN; clear al hN
  try simp only [World.size_alloc] at xb
  obtain ⟨al, xr, hN⟩ := mk hB #[.bool false, .slice none 0 0, .bool false, .slice none 0 0] 39
  replace xa := xa.on al; replace xb := xb.on al; replace hB := hN; clear al hN
  try simp only [World.size_alloc] at xr
  go_enter Tryz.func34, Tryz.ntmps34
  go_upto_region 1 with fail
  have xa1 := xa
  obtain ⟨W0, hW0⟩ : ∃ W, W = (((w.alloc (.cells #[.bool b, .slice a k c, .bool b', .slice a' k' c'] 39)).alloc (.cells #[.bool ub, .slice ua uk uc, .bool ub', .slice ua' uk' uc'] 39)).alloc (.cells #[.bool false, .slice none 0 0, .bool false, .slice none 0 0] 39)) := ⟨_, rfl⟩
  rw [← hW0] at hB xa xb xr ⊢
  clear hW0
  have q0 := xa.lt
  have q1 := xb.lt
  have a0 := xa.cell 0
  have b0 := xb.cell 0
  have a1 := xa.cell 1
  have b1 := xb.cell 1
  have a2 := xa.cell 2
  have b2 := xb.cell 2
  have a3 := xa.cell 3
  have b3 := xb.cell 3
  simp only [List.getElem?_toArray, List.getElem?_cons_zero, List.getElem?_cons_succ] at a0 a1 a2 a3 b0 b1 b2 b3
  clear xa xb xa1
  go_cut [8, 9] (fun s8 s9 wx => ∃ BX BY : Nat, s8 = .pointer (some ⟨BX, 0, none⟩) ∧ s9 = .pointer (some ⟨BY, 0, none⟩) ∧ Bk wx BX #[.bool b, .slice a k c, .bool b', .slice a' k' c'] 101 ∧ Bk wx BY #[.bool ub, .slice ua uk uc, .bool ub', .slice ua' uk' uc'] 101 ∧ Below W0.heap.size W0 wx)
  case first =>
    go_region
    all_goals (go_wp2_with fail; go_meet)
    · obtain ⟨t1, t2, t3⟩ := frpair_new W0 #[.bool b, .slice a k c, .bool b', .slice a' k' c'] #[.bool ub, .slice ua uk uc, .bool ub', .slice ua' uk' uc'] 101
      exact ⟨_, _, rfl, rfl, t1, t2, t3⟩
    · obtain ⟨t1, t2, t3⟩ := frpair_new W0 #[.bool ub, .slice ua uk uc, .bool ub', .slice ua' uk' uc'] #[.bool b, .slice a k c, .bool b', .slice a' k' c'] 101
      exact ⟨_, _, rfl, rfl, t2, t1, t3⟩
  case rest =>
    obtain ⟨BX, BY, rfl, rfl, xx, xy, hb⟩ := hcut
    replace xr := xr.on hb; replace hB := hB.trans (hb.mono hB.size)
    have hz0 := hb.size
    clear hb q0 q1 a0 a1 a2 a3 b0 b1 b2 b3
    have neX : BX ≠ w.heap.size + 1 + 1 := Bk.ne xx xr (by decide)
    have neY : BY ≠ w.heap.size + 1 + 1 := Bk.ne xy xr (by decide)
    have pr := xr.all4
    have px := xx.all4
    have py := xy.all4
    go_wp2_with fail
    clear pr px py
    refine (HV1.out _ hB).mono ?_
    rintro e w1 ⟨rfl, hb⟩
    replace xr := xr.on hb; replace xx := xx.on hb; replace xy := xy.on hb
    have hz1 := hb.size
    try simp at hz1
    replace hB := hB.trans (hb.mono hB.size); clear hb
    have pr := xr.all4
    have px := xx.all4
    have py := xy.all4
    go_wp2_with fail
    clear pr px py
    refine (HV2.out _ hB).mono ?_
    rintro e w2 ⟨rfl, hb⟩
    replace xr := xr.on hb; replace xx := xx.on hb; replace xy := xy.on hb
    have hz2 := hb.size
    try simp at hz2
    replace hB := hB.trans (hb.mono hB.size); clear hb
    have pr := xr.all4
    have px := xx.all4
    have py := xy.all4
    go_wp2_with fail
    clear pr px py
    refine (HZ.out _ hB).mono ?_
    rintro e w3 ⟨rfl, hb⟩
    replace xr := xr.on hb; replace xx := xx.on hb; replace xy := xy.on hb
    have hz3 := hb.size
    try simp at hz3
    replace hB := hB.trans (hb.mono hB.size); clear hb
    have pr := xr.all4
    have px := xx.all4
    have py := xy.all4
    go_wp2_with fail
    clear pr px py
    refine (HN.out _).mono ?_
    rintro e w4 ⟨rfl, hb⟩
    replace xr := xr.on hb; replace xx := xx.on hb; replace xy := xy.on hb
    have hz4 := hb.size
    try simp at hz4
    replace hB := hB.trans (hb.mono hB.size); clear hb
    have pr := xr.all4
    have px := xx.all4
    have py := xy.all4
    go_wp2_with fail
    clear pr px py xx xy; replace xr := xr.put4 (.bool false) (.slice none 0 0) (.bool false) (.slice none 0 0); replace hB := below4 hB (w.heap.size + 1 + 1) (by first | omega | (simp; omega) | simp) (.bool false) (.slice none 0 0) (.bool false) (.slice none 0 0)
    generalize ((((w4.setCell ⟨w.heap.size + 1 + 1, 0, none⟩ (.bool false)).setCell ⟨w.heap.size + 1 + 1, 1, none⟩ (.slice none 0 0)).setCell ⟨w.heap.size + 1 + 1, 2, none⟩ (.bool false)).setCell ⟨w.heap.size + 1 + 1, 3, none⟩ (.slice none 0 0)) = WF at *
    have pr := xr.all4
    exact bodyPost_ret (v := .tuple #[.agg #[.bool false, .slice none 0 0, .bool false, .slice none 0 0], .int .i64 20]) (by simp [results, Tryz.results34, go_sem, pr]) rfl ⟨rfl, hB⟩
theorem frRound_bad1 (b : Bool) (a : Option Addr) (k c : Nat) (b' : Bool) (a' : Option Addr) (k' c' : Nat) (ub : Bool) (ua : Option Addr) (uk uc : Nat) (ub' : Bool) (ua' : Option Addr) (uk' uc' : Nat) (m : Nat) (l l' : List Nat) (hv : fvld b l b' l' = false) (w : World) (h : Lim w (.slice a k c) l) (hm : Lm l) (h' : Lim w (.slice a' k' c') l') (hm' : Lm l') :
    Calls Tryz.prog 34 #[.agg #[.bool b, .slice a k c, .bool b', .slice a' k' c'], .agg #[.bool ub, .slice ua uk uc, .bool ub', .slice ua' uk' uc'], .int .u8 (m : Int)] w fun e w' => e = .returned (.tuple #[zeroF, .int .i64 2]) ∧ Below w.heap.size w w' := by
  have hv' := fun W (hW : Below w.heap.size w W) => valid_raw b a k c l b' a' k' c' l' W (h.below hW (Nat.le_refl _)) hm (h'.below hW (Nat.le_refl _)) hm'
  rw [hv] at hv'
  have HV1 := Lib.hid hv'
  clear h hm h' hm' hv hv'
  have hB := Below.refl w.heap.size w
  obtain ⟨al, xa, hN⟩ := mk hB #[.bool b, .slice a k c, .bool b', .slice a' k' c'] 39
  replace hB := hN; clear al hN
  try simp only [World.size_alloc] at xa
  obtain ⟨al, xb, hN⟩ := mk hB #[.bool ub, .slice ua uk uc, .bool ub', .slice ua' uk' uc'] 39
  replace xa := xa.on al; replace hB := hN; clear al hN
  try simp only [World.size_alloc] at xb
  obtain ⟨al, xr, hN⟩ := mk hB #[.bool false, .slice none 0 0, .bool false, .slice none 0 0] 39
  replace xa := xa.on al; replace xb := xb.on al; replace hB := hN; clear al hN
  try simp only [World.size_alloc] at xr
  go_enter Tryz.func34, Tryz.ntmps34
  go_upto_region 1 with fail
  have xa1 := xa
  obtain ⟨W0, hW0⟩ : ∃ W, W = (((w.alloc (.cells #[.bool b, .slice a k c, .bool b', .slice a' k' c'] 39)).alloc (.cells #[.bool ub, .slice ua uk uc, .bool ub', .slice ua' uk' uc'] 39)).alloc (.cells #[.bool false, .slice none 0 0, .bool false, .slice none 0 0] 39)) := ⟨_, rfl⟩
  rw [← hW0] at hB xa xb xr ⊢
  clear hW0
  have q0 := xa.lt
  have q1 := xb.lt
  have a0 := xa.cell 0
  have b0 := xb.cell 0
  have a1 := xa.cell 1
  have b1 := xb.cell 1
  have a2 := xa.cell 2
  have b2 := xb.cell 2
  have a3 := xa.cell 3
  have b3 := xb.cell 3
  simp only [List.getElem?_toArray, List.getElem?_cons_zero, List.getElem?_cons_succ] at a0 a1 a2 a3 b0 b1 b2 b3
  clear xa xb xa1
  go_cut [8, 9] (fun s8 s9 wx => ∃ BX BY : Nat, s8 = .pointer (some ⟨BX, 0, none⟩) ∧ s9 = .pointer (some ⟨BY, 0, none⟩) ∧ Bk wx BX #[.bool b, .slice a k c, .bool b', .slice a' k' c'] 101 ∧ Bk wx BY #[.bool ub, .slice ua uk uc, .bool ub', .slice ua' uk' uc'] 101 ∧ Below W0.heap.size W0 wx)
  case first =>
    go_region
    all_goals (go_wp2_with fail; go_meet)
    · obtain ⟨t1, t2, t3⟩ := frpair_new W0 #[.bool b, .slice a k c, .bool b', .slice a' k' c'] #[.bool ub, .slice ua uk uc, .bool ub', .slice ua' uk' uc'] 101
      exact ⟨_, _, rfl, rfl, t1, t2, t3⟩
    · obtain ⟨t1, t2, t3⟩ := frpair_new W0 #[.bool ub, .slice ua uk uc, .bool ub', .slice ua' uk' uc'] #[.bool b, .slice a k c, .bool b', .slice a' k' c'] 101
      exact ⟨_, _, rfl, rfl, t2, t1, t3⟩
  case rest =>
    obtain ⟨BX, BY, rfl, rfl, xx, xy, hb⟩ := hcut
    replace xr := xr.on hb; replace hB := hB.trans (hb.mono hB.size)
    have hz0 := hb.size
    clear hb q0 q1 a0 a1 a2 a3 b0 b1 b2 b3
    have neX : BX ≠ w.heap.size + 1 + 1 := Bk.ne xx xr (by decide)
    have neY : BY ≠ w.heap.size + 1 + 1 := Bk.ne xy xr (by decide)
    have pr := xr.all4
    have px := xx.all4
    have py := xy.all4
    go_wp2_with fail
    clear pr px py
    refine (HV1.out _ hB).mono ?_
    rintro e w1 ⟨rfl, hb⟩
    replace xr := xr.on hb; replace xx := xx.on hb; replace xy := xy.on hb
    have hz1 := hb.size
    try simp at hz1
    replace hB := hB.trans (hb.mono hB.size); clear hb
    have pr := xr.all4
    have px := xx.all4
    have py := xy.all4
    go_wp2_with fail
    clear pr px py xx xy; replace xr := xr.put4 (.bool false) (.slice none 0 0) (.bool false) (.slice none 0 0); replace hB := below4 hB (w.heap.size + 1 + 1) (by first | omega | (simp; omega) | simp) (.bool false) (.slice none 0 0) (.bool false) (.slice none 0 0)
    generalize ((((w1.setCell ⟨w.heap.size + 1 + 1, 0, none⟩ (.bool false)).setCell ⟨w.heap.size + 1 + 1, 1, none⟩ (.slice none 0 0)).setCell ⟨w.heap.size + 1 + 1, 2, none⟩ (.bool false)).setCell ⟨w.heap.size + 1 + 1, 3, none⟩ (.slice none 0 0)) = WF at *
    have pr := xr.all4
    exact bodyPost_ret (v := .tuple #[.agg #[.bool false, .slice none 0 0, .bool false, .slice none 0 0], .int .i64 2]) (by simp [results, Tryz.results34, go_sem, pr]) rfl ⟨rfl, hB⟩
theorem frRound_bad2 (q : Rat) (b : Bool) (a : Option Addr) (k c : Nat) (b' : Bool) (a' : Option Addr) (k' c' : Nat) (ub : Bool) (ua : Option Addr) (uk uc : Nat) (ub' : Bool) (ua' : Option Addr) (uk' uc' : Nat) (hq : Fz 256 256 q) (m : Nat) (l l' : List Nat) (hv : fvld ub l ub' l' = false) (w : World) (h : Fra w (.agg #[.bool b, .slice a k c, .bool b', .slice a' k' c']) q) (g : Lim w (.slice ua uk uc) l) (hm : Lm l) (g' : Lim w (.slice ua' uk' uc') l') (hm' : Lm l') :
    Calls Tryz.prog 34 #[.agg #[.bool b, .slice a k c, .bool b', .slice a' k' c'], .agg #[.bool ub, .slice ua uk uc, .bool ub', .slice ua' uk' uc'], .int .u8 (m : Int)] w fun e w' => e = .returned (.tuple #[zeroF, .int .i64 2]) ∧ Below w.heap.size w w' := by
  have HV1 := Lib.hid (fun W (hW : Below w.heap.size w W) => valid_ok (.agg #[.bool b, .slice a k c, .bool b', .slice a' k' c']) q hq W (h.below hW (Nat.le_refl _)))
  have hv' := fun W (hW : Below w.heap.size w W) => valid_raw ub ua uk uc l ub' ua' uk' uc' l' W (g.below hW (Nat.le_refl _)) hm (g'.below hW (Nat.le_refl _)) hm'
  rw [hv] at hv'
  have HV2 := Lib.hid hv'
  clear h hq g hm g' hm' hv hv'
  have hB := Below.refl w.heap.size w
  obtain ⟨al, xa, hN⟩ := mk hB #[.bool b, .slice a k c, .bool b', .slice a' k' c'] 39
  replace hB := hN; clear al hN
  try simp only [World.size_alloc] at xa
  obtain ⟨al, xb, hN⟩ := mk hB #[.bool ub, .slice ua uk uc, .bool ub', .slice ua' uk' uc'] 39
  replace xa := xa.on al; replace hB := hN; clear al hN
  try simp only [World.size_alloc] at xb
  obtain ⟨al, xr, hN⟩ := mk hB #[.bool false, .slice none 0 0, .bool false, .slice none 0 0] 39
  replace xa := xa.on al; replace xb := xb.on al; replace hB := hN; clear al hN
  try simp only [World.size_alloc] at xr
  go_enter Tryz.func34, Tryz.ntmps34
  go_upto_region 1 with fail
  have xa1 := xa
  obtain ⟨W0, hW0⟩ : ∃ W, W = (((w.alloc (.cells #[.bool b, .slice a k c, .bool b', .slice a' k' c'] 39)).alloc (.cells #[.bool ub, .slice ua uk uc, .bool ub', .slice ua' uk' uc'] 39)).alloc (.cells #[.bool false, .slice none 0 0, .bool false, .slice none 0 0] 39)) := ⟨_, rfl⟩
  rw [← hW0] at hB xa xb xr ⊢
  clear hW0
  have q0 := xa.lt
  have q1 := xb.lt
  have a0 := xa.cell 0
  have b0 := xb.cell 0
  have a1 := xa.cell 1
  have b1 := xb.cell 1
  have a2 := xa.cell 2
  have b2 := xb.cell 2
  have a3 := xa.cell 3
  have b3 := xb.cell 3
  simp only [List.getElem?_toArray, List.getElem?_cons_zero, List.getElem?_cons_succ] at a0 a1 a2 a3 b0 b1 b2 b3
  clear xa xb xa1
  go_cut [8, 9] (fun s8 s9 wx => ∃ BX BY : Nat, s8 = .pointer (some ⟨BX, 0, none⟩) ∧ s9 = .pointer (some ⟨BY, 0, none⟩) ∧ Bk wx BX #[.bool b, .slice a k c, .bool b', .slice a' k' c'] 101 ∧ Bk wx BY #[.bool ub, .slice ua uk uc, .bool ub', .slice ua' uk' uc'] 101 ∧ Below W0.heap.size W0 wx)
  case first =>
    go_region
    all_goals (go_wp2_with fail; go_meet)
    · obtain ⟨t1, t2, t3⟩ := frpair_new W0 #[.bool b, .slice a k c, .bool b', .slice a' k' c'] #[.bool ub, .slice ua uk uc, .bool ub', .slice ua' uk' uc'] 101
      exact ⟨_, _, rfl, rfl, t1, t2, t3⟩
    · obtain ⟨t1, t2, t3⟩ := frpair_new W0 #[.bool ub, .slice ua uk uc, .bool ub', .slice ua' uk' uc'] #[.bool b, .slice a k c, .bool b', .slice a' k' c'] 101
      exact ⟨_, _, rfl, rfl, t2, t1, t3⟩
  case rest =>
    obtain ⟨BX, BY, rfl, rfl, xx, xy, hb⟩ := hcut
    replace xr := xr.on hb; replace hB := hB.trans (hb.mono hB.size)
    have hz0 := hb.size
    clear hb q0 q1 a0 a1 a2 a3 b0 b1 b2 b3
    have neX : BX ≠ w.heap.size + 1 + 1 := Bk.ne xx xr (by decide)
    have neY : BY ≠ w.heap.size + 1 + 1 := Bk.ne xy xr (by decide)
    have pr := xr.all4
    have px := xx.all4
    have py := xy.all4
    go_wp2_with fail
    clear pr px py
    refine (HV1.out _ hB).mono ?_
    rintro e w1 ⟨rfl, hb⟩
    replace xr := xr.on hb; replace xx := xx.on hb; replace xy := xy.on hb
    have hz1 := hb.size
    try simp at hz1
    replace hB := hB.trans (hb.mono hB.size); clear hb
    have pr := xr.all4
    have px := xx.all4
    have py := xy.all4
    go_wp2_with fail
    clear pr px py
    refine (HV2.out _ hB).mono ?_
    rintro e w2 ⟨rfl, hb⟩
    replace xr := xr.on hb; replace xx := xx.on hb; replace xy := xy.on hb
    have hz2 := hb.size
    try simp at hz2
    replace hB := hB.trans (hb.mono hB.size); clear hb
    have pr := xr.all4
    have px := xx.all4
    have py := xy.all4
    go_wp2_with fail
    clear pr px py xx xy; replace xr := xr.put4 (.bool false) (.slice none 0 0) (.bool false) (.slice none 0 0); replace hB := below4 hB (w.heap.size + 1 + 1) (by first | omega | (simp; omega) | simp) (.bool false) (.slice none 0 0) (.bool false) (.slice none 0 0)
    generalize ((((w2.setCell ⟨w.heap.size + 1 + 1, 0, none⟩ (.bool false)).setCell ⟨w.heap.size + 1 + 1, 1, none⟩ (.slice none 0 0)).setCell ⟨w.heap.size + 1 + 1, 2, none⟩ (.bool false)).setCell ⟨w.heap.size + 1 + 1, 3, none⟩ (.slice none 0 0)) = WF at *
    have pr := xr.all4
    exact bodyPost_ret (v := .tuple #[.agg #[.bool false, .slice none 0 0, .bool false, .slice none 0 0], .int .i64 2]) (by simp [results, Tryz.results34, go_sem, pr]) rfl ⟨rfl, hB⟩
theorem frRound_mode0 (q u : Rat) (b : Bool) (a : Option Addr) (k c : Nat) (b' : Bool) (a' : Option Addr) (k' c' : Nat) (ub : Bool) (ua : Option Addr) (uk uc : Nat) (ub' : Bool) (ua' : Option Addr) (uk' uc' : Nat) (hq : Fz 256 256 q) (hu : Fz 256 256 u) (w : World) (h : Fra w (.agg #[.bool b, .slice a k c, .bool b', .slice a' k' c']) q) (g : Fra w (.agg #[.bool ub, .slice ua uk uc, .bool ub', .slice ua' uk' uc']) u) :
    Calls Tryz.prog 34 #[.agg #[.bool b, .slice a k c, .bool b', .slice a' k' c'], .agg #[.bool ub, .slice ua uk uc, .bool ub', .slice ua' uk' uc'], .int .u8 0] w fun e w' => e = .returned (.tuple #[zeroF, .int .i64 2]) ∧ Below w.heap.size w w' := by
  have HV1 := Lib.hid (fun W (hW : Below w.heap.size w W) => valid_ok (.agg #[.bool b, .slice a k c, .bool b', .slice a' k' c']) q hq W (h.below hW (Nat.le_refl _)))
  have HV2 := Lib.hid (fun W (hW : Below w.heap.size w W) => valid_ok (.agg #[.bool ub, .slice ua uk uc, .bool ub', .slice ua' uk' uc']) u hu W (g.below hW (Nat.le_refl _)))
  clear h g hq hu
  have hB := Below.refl w.heap.size w
  obtain ⟨al, xa, hN⟩ := mk hB #[.bool b, .slice a k c, .bool b', .slice a' k' c'] 39
  replace hB := hN; clear al hN
  try simp only [World.size_alloc] at xa
  obtain ⟨al, xb, hN⟩ := mk hB #[.bool ub, .slice ua uk uc, .bool ub', .slice ua' uk' uc'] 39
  replace xa := xa.on al; replace hB := hN; clear al hN
  try simp only [World.size_alloc] at xb
  obtain ⟨al, xr, hN⟩ := mk hB #[.bool false, .slice none 0 0, .bool false, .slice none 0 0] 39
  replace xa := xa.on al; replace xb := xb.on al; replace hB := hN; clear al hN
  try simp only [World.size_alloc] at xr
  go_enter Tryz.func34, Tryz.ntmps34
  go_upto_region 1 with fail
  have xa1 := xa
  obtain ⟨W0, hW0⟩ : ∃ W, W = (((w.alloc (.cells #[.bool b, .slice a k c, .bool b', .slice a' k' c'] 39)).alloc (.cells #[.bool ub, .slice ua uk uc, .bool ub', .slice ua' uk' uc'] 39)).alloc (.cells #[.bool false, .slice none 0 0, .bool false, .slice none 0 0] 39)) := ⟨_, rfl⟩
  rw [← hW0] at hB xa xb xr ⊢
  clear hW0
  have q0 := xa.lt
  have q1 := xb.lt
  have a0 := xa.cell 0
  have b0 := xb.cell 0
  have a1 := xa.cell 1
  have b1 := xb.cell 1
  have a2 := xa.cell 2
  have b2 := xb.cell 2
  have a3 := xa.cell 3
  have b3 := xb.cell 3
  simp only [List.getElem?_toArray, List.getElem?_cons_zero, List.getElem?_cons_succ] at a0 a1 a2 a3 b0 b1 b2 b3
  clear xa xb xa1
  go_cut [8, 9] (fun s8 s9 wx => ∃ BX BY : Nat, s8 = .pointer (some ⟨BX, 0, none⟩) ∧ s9 = .pointer (some ⟨BY, 0, none⟩) ∧ Bk wx BX #[.bool b, .slice a k c, .bool b', .slice a' k' c'] 101 ∧ Bk wx BY #[.bool ub, .slice ua uk uc, .bool ub', .slice ua' uk' uc'] 101 ∧ Below W0.heap.size W0 wx)
  case first =>
    go_region
    all_goals (go_wp2_with fail; go_meet)
    · obtain ⟨t1, t2, t3⟩ := frpair_new W0 #[.bool b, .slice a k c, .bool b', .slice a' k' c'] #[.bool ub, .slice ua uk uc, .bool ub', .slice ua' uk' uc'] 101
      exact ⟨_, _, rfl, rfl, t1, t2, t3⟩
    · obtain ⟨t1, t2, t3⟩ := frpair_new W0 #[.bool ub, .slice ua uk uc, .bool ub', .slice ua' uk' uc'] #[.bool b, .slice a k c, .bool b', .slice a' k' c'] 101
      exact ⟨_, _, rfl, rfl, t2, t1, t3⟩
  case rest =>
    obtain ⟨BX, BY, rfl, rfl, xx, xy, hb⟩ := hcut
    replace xr := xr.on hb; replace hB := hB.trans (hb.mono hB.size)
    have hz0 := hb.size
    clear hb q0 q1 a0 a1 a2 a3 b0 b1 b2 b3
    have neX : BX ≠ w.heap.size + 1 + 1 := Bk.ne xx xr (by decide)
    have neY : BY ≠ w.heap.size + 1 + 1 := Bk.ne xy xr (by decide)
    have pr := xr.all4
    have px := xx.all4
    have py := xy.all4
    go_wp2_with fail
    clear pr px py
    refine (HV1.out _ hB).mono ?_
    rintro e w1 ⟨rfl, hb⟩
    replace xr := xr.on hb; replace xx := xx.on hb; replace xy := xy.on hb
    have hz1 := hb.size
    try simp at hz1
    replace hB := hB.trans (hb.mono hB.size); clear hb
    have pr := xr.all4
    have px := xx.all4
    have py := xy.all4
    go_wp2_with fail
    clear pr px py
    refine (HV2.out _ hB).mono ?_
    rintro e w2 ⟨rfl, hb⟩
    replace xr := xr.on hb; replace xx := xx.on hb; replace xy := xy.on hb
    have hz2 := hb.size
    try simp at hz2
    replace hB := hB.trans (hb.mono hB.size); clear hb
    have pr := xr.all4
    have px := xx.all4
    have py := xy.all4
    go_wp2_with fail
    clear pr px py xx xy; replace xr := xr.put4 (.bool false) (.slice none 0 0) (.bool false) (.slice none 0 0); replace hB := below4 hB (w.heap.size + 1 + 1) (by first | omega | (simp; omega) | simp) (.bool false) (.slice none 0 0) (.bool false) (.slice none 0 0)
    generalize ((((w2.setCell ⟨w.heap.size + 1 + 1, 0, none⟩ (.bool false)).setCell ⟨w.heap.size + 1 + 1, 1, none⟩ (.slice none 0 0)).setCell ⟨w.heap.size + 1 + 1, 2, none⟩ (.bool false)).setCell ⟨w.heap.size + 1 + 1, 3, none⟩ (.slice none 0 0)) = WF at *
    have pr := xr.all4
    exact bodyPost_ret (v := .tuple #[.agg #[.bool false, .slice none 0 0, .bool false, .slice none 0 0], .int .i64 2]) (by simp [results, Tryz.results34, go_sem, pr]) rfl ⟨rfl, hB⟩
theorem frRound_mode7 (q u : Rat) (b : Bool) (a : Option Addr) (k c : Nat) (b' : Bool) (a' : Option Addr) (k' c' : Nat) (ub : Bool) (ua : Option Addr) (uk uc : Nat) (ub' : Bool) (ua' : Option Addr) (uk' uc' : Nat) (hq : Fz 256 256 q) (hu : Fz 256 256 u) (m : Nat) (hm1 : 7 ≤ m) (w : World) (h : Fra w (.agg #[.bool b, .slice a k c, .bool b', .slice a' k' c']) q) (g : Fra w (.agg #[.bool ub, .slice ua uk uc, .bool ub', .slice ua' uk' uc']) u) :
    Calls Tryz.prog 34 #[.agg #[.bool b, .slice a k c, .bool b', .slice a' k' c'], .agg #[.bool ub, .slice ua uk uc, .bool ub', .slice ua' uk' uc'], .int .u8 (m : Int)] w fun e w' => e = .returned (.tuple #[zeroF, .int .i64 2]) ∧ Below w.heap.size w w' := by
  have HV1 := Lib.hid (fun W (hW : Below w.heap.size w W) => valid_ok (.agg #[.bool b, .slice a k c, .bool b', .slice a' k' c']) q hq W (h.below hW (Nat.le_refl _)))
  have HV2 := Lib.hid (fun W (hW : Below w.heap.size w W) => valid_ok (.agg #[.bool ub, .slice ua uk uc, .bool ub', .slice ua' uk' uc']) u hu W (g.below hW (Nat.le_refl _)))
  clear h g hq hu
  have hB := Below.refl w.heap.size w
  obtain ⟨al, xa, hN⟩ := mk hB #[.bool b, .slice a k c, .bool b', .slice a' k' c'] 39
  replace hB := hN; clear al hN
  try simp only [World.size_alloc] at xa
  obtain ⟨al, xb, hN⟩ := mk hB #[.bool ub, .slice ua uk uc, .bool ub', .slice ua' uk' uc'] 39
  replace xa := xa.on al; replace hB := hN; clear al hN
  try simp only [World.size_alloc] at xb
  obtain ⟨al, xr, hN⟩ := mk hB #[.bool false, .slice none 0 0, .bool false, .slice none 0 0] 39
  replace xa := xa.on al; replace xb := xb.on al; replace hB := hN; clear al hN
  try simp only [World.size_alloc] at xr
  go_enter Tryz.func34, Tryz.ntmps34
  go_upto_region 1 with fail
  have xa1 := xa
  obtain ⟨W0, hW0⟩ : ∃ W, W = (((w.alloc (.cells #[.bool b, .slice a k c, .bool b', .slice a' k' c'] 39)).alloc (.cells #[.bool ub, .slice ua uk uc, .bool ub', .slice ua' uk' uc'] 39)).alloc (.cells #[.bool false, .slice none 0 0, .bool false, .slice none 0 0] 39)) := ⟨_, rfl⟩
  rw [← hW0] at hB xa xb xr ⊢
  clear hW0
  have q0 := xa.lt
  have q1 := xb.lt
  have a0 := xa.cell 0
  have b0 := xb.cell 0
  have a1 := xa.cell 1
  have b1 := xb.cell 1
  have a2 := xa.cell 2
  have b2 := xb.cell 2
  have a3 := xa.cell 3
  have b3 := xb.cell 3
  simp only [List.getElem?_toArray, List.getElem?_cons_zero, List.getElem?_cons_succ] at a0 a1 a2 a3 b0 b1 b2 b3
  clear xa xb xa1
  go_cut [8, 9] (fun s8 s9 wx => ∃ BX BY : Nat, s8 = .pointer (some ⟨BX, 0, none⟩) ∧ s9 = .pointer (some ⟨BY, 0, none⟩) ∧ Bk wx BX #[.bool b, .slice a k c, .bool b', .slice a' k' c'] 101 ∧ Bk wx BY #[.bool ub, .slice ua uk uc, .bool ub', .slice ua' uk' uc'] 101 ∧ Below W0.heap.size W0 wx)
  case first =>
    go_region
    all_goals (go_wp2_with fail; go_meet)
    · obtain ⟨t1, t2, t3⟩ := frpair_new W0 #[.bool b, .slice a k c, .bool b', .slice a' k' c'] #[.bool ub, .slice ua uk uc, .bool ub', .slice ua' uk' uc'] 101
      exact ⟨_, _, rfl, rfl, t1, t2, t3⟩
    · obtain ⟨t1, t2, t3⟩ := frpair_new W0 #[.bool ub, .slice ua uk uc, .bool ub', .slice ua' uk' uc'] #[.bool b, .slice a k c, .bool b', .slice a' k' c'] 101
      exact ⟨_, _, rfl, rfl, t2, t1, t3⟩
  case rest =>
    obtain ⟨BX, BY, rfl, rfl, xx, xy, hb⟩ := hcut
    replace xr := xr.on hb; replace hB := hB.trans (hb.mono hB.size)
    have hz0 := hb.size
    clear hb q0 q1 a0 a1 a2 a3 b0 b1 b2 b3
    have neX : BX ≠ w.heap.size + 1 + 1 := Bk.ne xx xr (by decide)
    have neY : BY ≠ w.heap.size + 1 + 1 := Bk.ne xy xr (by decide)
    have pr := xr.all4
    have px := xx.all4
    have py := xy.all4
    go_wp2_with fail
    clear pr px py
    refine (HV1.out _ hB).mono ?_
    rintro e w1 ⟨rfl, hb⟩
    replace xr := xr.on hb; replace xx := xx.on hb; replace xy := xy.on hb
    have hz1 := hb.size
    try simp at hz1
    replace hB := hB.trans (hb.mono hB.size); clear hb
    have pr := xr.all4
    have px := xx.all4
    have py := xy.all4
    go_wp2_with fail
    clear pr px py
    refine (HV2.out _ hB).mono ?_
    rintro e w2 ⟨rfl, hb⟩
    replace xr := xr.on hb; replace xx := xx.on hb; replace xy := xy.on hb
    have hz2 := hb.size
    try simp at hz2
    replace hB := hB.trans (hb.mono hB.size); clear hb
    have pr := xr.all4
    have px := xx.all4
    have py := xy.all4
    go_wp2_with fail
    clear pr px py xx xy; replace xr := xr.put4 (.bool false) (.slice none 0 0) (.bool false) (.slice none 0 0); replace hB := below4 hB (w.heap.size + 1 + 1) (by first | omega | (simp; omega) | simp) (.bool false) (.slice none 0 0) (.bool false) (.slice none 0 0)
    generalize ((((w2.setCell ⟨w.heap.size + 1 + 1, 0, none⟩ (.bool false)).setCell ⟨w.heap.size + 1 + 1, 1, none⟩ (.slice none 0 0)).setCell ⟨w.heap.size + 1 + 1, 2, none⟩ (.bool false)).setCell ⟨w.heap.size + 1 + 1, 3, none⟩ (.slice none 0 0)) = WF at *
    have pr := xr.all4
    exact bodyPost_ret (v := .tuple #[.agg #[.bool false, .slice none 0 0, .bool false, .slice none 0 0], .int .i64 2]) (by simp [results, Tryz.results34, go_sem, pr]) rfl ⟨rfl, hB⟩
end Go.Proofs.YtmbcnfogjncdaaaGreat
