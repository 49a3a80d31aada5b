/- A part of the proofs about fractions. -/
import Derived.Deep.DeepCutAuto
import Derived.Deep.RegionHeld3
import Derived.Laws.OwnMore
import Derived.Outline
import Derived.OwnWalk
import Derived.Test.YtnnnhjgmgomlpaaGreatQz1
import Derived.Test.YtnnnhjgmgomlpaaGreatQz12
import Derived.Test.YtnnnhjgmgomlpaaGreatQz25
namespace Go.Proofs.YtnnnhjgmgomlpaaGreat
open Go.RowKit Wh
theorem Bk.ne {W : World} {B B' : Nat} {C C' : Array Value} {T T' : TypeId} (h : Bk W B C T) (g : Bk W B' C' T') (hT : T ≠ T') : B ≠ B' := fun e => by
  subst e
  unfold Bk at h g
  rw [h] at g
  simp only [Option.some.injEq, Obj.cells.injEq] at g
  exact hT g.2.1
theorem rfac_sz {n d : Int} (neg : Bool) (m : Nat) (h : Sz 512 n) (hd : 0 < d) : Sz 513 (rfac neg n d m) := by
  have h1 := rfac_le neg n d m hd
  have h2 : Sz 513 ((n.natAbs : Int) + 1) := Sz.add (h.le (by omega)) (Sz.small (z := 1) (by decide))
  exact h2.le (by omega)
theorem factor_any (q u : Rat) (b : Bool) (a : Option Addr) (k c : Nat) (b' : Bool) (a' : Option Addr) (k' c' : Nat) (ub : Bool) (ua : Option Addr) (uk uc : Nat) (ub' : Bool) (ua' : Option Addr) (uk' uc' : Nat) (hp : Fz 256 256 q) (hu : Fz 256 256 u) (hu0 : 0 < u.num) (m : Nat) (hm1 : 1 ≤ m) (hm2 : m ≤ 6) (w : World) (h : Fra w (.agg #[.bool b, .slice a k c, .bool b', .slice a' k' c']) q) (g : Fra w (.agg #[.bool ub, .slice ua uk uc, .bool ub', .slice ua' uk' uc']) u) :
    Calls Tryz.prog 96 #[.agg #[.bool b, .slice a k c, .bool b', .slice a' k' c'], .agg #[.bool ub, .slice ua uk uc, .bool ub', .slice ua' uk' uc'], .int .u8 (m : Int)] w fun e w' => (∃ v, e = .returned v ∧ Num w' v (rfac (decide (q.num < 0)) (q.num * u.den) (q.den * u.num) m)) ∧ Below w.heap.size w w' := by
  have eb := (fra_nums h).1
  by_cases h0 : q.num * (u.den : Int) % ((q.den : Int) * u.num) = 0
  · have := factor_0 q u b a k c b' a' k' c' ub ua uk uc ub' ua' uk' uc' hp hu hu0 (m : Int) h0 w h g
    unfold rfac
    rw [if_pos h0]
    exact this
  · unfold rfac
    rw [if_neg h0, ← eb]
    have hc : m = 1 ∨ m = 2 ∨ m = 3 ∨ m = 4 ∨ m = 5 ∨ m = 6 := by omega
    rcases hc with rfl | rfl | rfl | rfl | rfl | rfl
    · cases hr : rup 1 b (q.num * (u.den : Int) % ((q.den : Int) * u.num) + q.num * (u.den : Int) % ((q.den : Int) * u.num)) ((q.den : Int) * u.num) (q.num * (u.den : Int) / ((q.den : Int) * u.num)) with
      | true => rw [if_pos rfl]; exact factor_1true q u b a k c b' a' k' c' ub ua uk uc ub' ua' uk' uc' hp hu hu0 h0 hr w h g
      | false => rw [if_neg Bool.false_ne_true]; exact factor_1false q u b a k c b' a' k' c' ub ua uk uc ub' ua' uk' uc' hp hu hu0 h0 hr w h g
    · cases hr : rup 2 b (q.num * (u.den : Int) % ((q.den : Int) * u.num) + q.num * (u.den : Int) % ((q.den : Int) * u.num)) ((q.den : Int) * u.num) (q.num * (u.den : Int) / ((q.den : Int) * u.num)) with
      | true => rw [if_pos rfl]; exact factor_2true q u b a k c b' a' k' c' ub ua uk uc ub' ua' uk' uc' hp hu hu0 h0 hr w h g
      | false => rw [if_neg Bool.false_ne_true]; exact factor_2false q u b a k c b' a' k' c' ub ua uk uc ub' ua' uk' uc' hp hu hu0 h0 hr w h g
    · exact factor_3false q u b a k c b' a' k' c' ub ua uk uc ub' ua' uk' uc' hp hu hu0 h0 w h g
    · exact factor_4true q u b a k c b' a' k' c' ub ua uk uc ub' ua' uk' uc' hp hu hu0 h0 w h g
    · cases hr : rup 5 b (q.num * (u.den : Int) % ((q.den : Int) * u.num) + q.num * (u.den : Int) % ((q.den : Int) * u.num)) ((q.den : Int) * u.num) (q.num * (u.den : Int) / ((q.den : Int) * u.num)) with
      | true => rw [if_pos rfl]; exact factor_5true q u b a k c b' a' k' c' ub ua uk uc ub' ua' uk' uc' hp hu hu0 h0 hr w h g
      | false => rw [if_neg Bool.false_ne_true]; exact factor_5false q u b a k c b' a' k' c' ub ua uk uc ub' ua' uk' uc' hp hu hu0 h0 hr w h g
    · cases hr : rup 6 b (q.num * (u.den : Int) % ((q.den : Int) * u.num) + q.num * (u.den : Int) % ((q.den : Int) * u.num)) ((q.den : Int) * u.num) (q.num * (u.den : Int) / ((q.den : Int) * u.num)) with
      | true => rw [if_pos rfl]; exact factor_6true q u b a k c b' a' k' c' ub ua uk uc ub' ua' uk' uc' hp hu hu0 h0 hr w h g
      | false => rw [if_neg Bool.false_ne_true]; exact factor_6false q u b a k c b' a' k' c' ub ua uk uc ub' ua' uk' uc' hp hu hu0 h0 hr w h g
set_option maxRecDepth 100000 in
set_option maxHeartbeats 2000000 in
theorem frRound_ok (q u : Rat) (b : Bool) (a : Option Addr) (k c : Nat) (b' : Bool) (a' : Option Addr) (k' c' : Nat) (ub : Bool) (ua : Option Addr) (uk uc : Nat) (ub' : Bool) (ua' : Option Addr) (uk' uc' : Nat) (hq : Fz 256 256 q) (hu : Fz 256 256 u) (hu0 : 0 < u.num) (m : Nat) (hm1 : 1 ≤ m) (hm2 : m ≤ 6) (hz : Fz 256 256 (rnd q u m)) (w : World) (h : Fra w (.agg #[.bool b, .slice a k c, .bool b', .slice a' k' c']) q) (g : Fra w (.agg #[.bool ub, .slice ua uk uc, .bool ub', .slice ua' uk' uc']) u) :
    Calls Tryz.prog 27 #[.agg #[.bool b, .slice a k c, .bool b', .slice a' k' c'], .agg #[.bool ub, .slice ua uk uc, .bool ub', .slice ua' uk' uc'], .int .u8 (m : Int)] w fun e w' => (∃ v, e = .returned (.tuple #[v, .int .i64 0]) ∧ Fra w' v (rnd q u m)) ∧ Below w.heap.size w w' := by
  have HV1 := Lib.hid (fun W (hW : Below w.heap.size w W) => valid_ok (.agg #[.bool b, .slice a k c, .bool b', .slice a' k' c']) q hq W (h.below hW (Nat.le_refl _)))
  have HV2 := Lib.hid (fun W (hW : Below w.heap.size w W) => valid_ok (.agg #[.bool ub, .slice ua uk uc, .bool ub', .slice ua' uk' uc']) u hu W (g.below hW (Nat.le_refl _)))
  obtain ⟨eb, eb', n1, n2⟩ := fra_nums g
  have hz0 := fun W (hW : Below w.heap.size w W) => isZero_num _ u.num W (n1.below hW (Nat.le_refl _))
  rw [show decide (u.num = 0) = false from decide_eq_false (by omega)] at hz0
  have HZ := Lib.hid hz0
  have hn0 := fun W => negative_any ub ua uk uc ub' ua' uk' uc' W
  have eu : ub = false := by rw [eb]; exact decide_eq_false (by omega)
  simp only [show Ending.returned (.bool ub) = Ending.returned (.bool false) from by rw [eu]] at hn0
  have HN := Lib.hid hn0
  clear hn0 eu
  have HF := Lib.hid (fun W (hW : Below w.heap.size w W) => factor_any q u b a k c b' a' k' c' ub ua uk uc ub' ua' uk' uc' hq hu hu0 m hm1 hm2 W (h.below hW (Nat.le_refl _)) (g.below hW (Nat.le_refl _)))
  have hk : Sz 513 (rfac (decide (q.num < 0)) (q.num * u.den) (q.den * u.num) m) := rfac_sz (decide (q.num < 0)) m (Sz.mul hq.1 hu.2) (Int.mul_pos (by have := q.den_pos; omega) hu0)
  obtain ⟨h2, h2d⟩ := hu
  have HT := Lib.hid (fun v W (hW : Below w.heap.size w W) gk => frtimes_any v (.agg #[.bool ub, .slice ua uk uc]) (rfac (decide (q.num < 0)) (q.num * u.den) (q.den * u.num) m) u.num _ rfl (hk.mono (by decide)) (h2.mono (by decide)) ((Sz.mul hk h2).mono (by decide)) W gk (n1.below hW (Nat.le_refl _)))
  have HM := Lib.hid (fun bn an kn cn W gp (hW : Below w.heap.size w W) => Make_okk bn an kn cn ub' ua' uk' uc' _ (u.den : Int) (rnd q u m) rfl ((Sz.mul hk h2).mono (by decide)) (h2d.mono (by decide)) (by have := u.den_pos; omega) hz W gp (n2.below hW (Nat.le_refl _)))
  clear hk h2 h2d hz
  clear h g n1 n2 eb eb' hz0 hq
  try clear hu0
  have hB := Below.refl w.heap.size w
  obtain ⟨al, xa, hN⟩ := mk hB #[.bool b, .slice a k c, .bool b', .slice a' k' c'] 26
  replace hB := hN
  clear al hN
  try simp only [World.size_alloc] at xa
  obtain ⟨al, xb, hN⟩ := mk hB #[.bool ub, .slice ua uk uc, .bool ub', .slice ua' uk' uc'] 26
  replace xa := xa.on al
  replace hB := hN
  clear al hN
  try simp only [World.size_alloc] at xb
  obtain ⟨al, xr, hN⟩ := mk hB #[.bool false, .slice none 0 0, .bool false, .slice none 0 0] 26
  replace xa := xa.on al
  replace xb := xb.on al
  replace hB := hN
  clear al hN
  try simp only [World.size_alloc] at xr
  go_enter Tryz.func27, Tryz.ntmps27
  go_upto_region 1 with fail
  have xa1 := xa
  obtain ⟨W0, hW0⟩ : ∃ W, W = (((w.alloc (.cells #[.bool b, .slice a k c, .bool b', .slice a' k' c'] 26)).alloc (.cells #[.bool ub, .slice ua uk uc, .bool ub', .slice ua' uk' uc'] 26)).alloc (.cells #[.bool false, .slice none 0 0, .bool false, .slice none 0 0] 26)) := ⟨_, rfl⟩
  rw [← hW0] at hB xa xb xr ⊢
  clear hW0
  have q0 := xa.lt
  have q1 := xb.lt
  have a0 := xa.cell 0
  have b0 := xb.cell 0
  have a1 := xa.cell 1
  have b1 := xb.cell 1
  have a2 := xa.cell 2
  have b2 := xb.cell 2
  have a3 := xa.cell 3
  have b3 := xb.cell 3
  simp only [List.getElem?_toArray, List.getElem?_cons_zero, List.getElem?_cons_succ] at a0 a1 a2 a3 b0 b1 b2 b3
  clear xa xb xa1
  go_cut [8, 9] (fun s8 s9 wx => ∃ BX BY : Nat, s8 = .pointer (some ⟨BX, 0, none⟩) ∧ s9 = .pointer (some ⟨BY, 0, none⟩) ∧ Bk wx BX #[.bool b, .slice a k c, .bool b', .slice a' k' c'] 85 ∧ Bk wx BY #[.bool ub, .slice ua uk uc, .bool ub', .slice ua' uk' uc'] 85 ∧ Below W0.heap.size W0 wx)
  case first =>
    go_region
    all_goals (go_wp2_with fail; go_meet)
    · obtain ⟨t1, t2, t3⟩ := frpair_new W0 #[.bool b, .slice a k c, .bool b', .slice a' k' c'] #[.bool ub, .slice ua uk uc, .bool ub', .slice ua' uk' uc'] 85
      exact ⟨_, _, rfl, rfl, t1, t2, t3⟩
    · obtain ⟨t1, t2, t3⟩ := frpair_new W0 #[.bool ub, .slice ua uk uc, .bool ub', .slice ua' uk' uc'] #[.bool b, .slice a k c, .bool b', .slice a' k' c'] 85
      exact ⟨_, _, rfl, rfl, t2, t1, t3⟩
  case rest =>
    obtain ⟨BX, BY, rfl, rfl, xx, xy, hb⟩ := hcut
    replace xr := xr.on hb
    replace hB := hB.trans (hb.mono hB.size)
    have hz0 := hb.size
    clear hb q0 q1 a0 a1 a2 a3 b0 b1 b2 b3
    have neX : BX ≠ w.heap.size + 1 + 1 := Bk.ne xx xr (by decide)
    have neY : BY ≠ w.heap.size + 1 + 1 := Bk.ne xy xr (by decide)
    have pr := xr.all4
    have px := xx.all4
    have py := xy.all4
    go_wp2_with fail
    clear pr px py
    refine (HV1.out _ hB).mono ?_
    rintro e w1 ⟨rfl, hb⟩
    replace xr := xr.on hb
    replace xx := xx.on hb
    replace xy := xy.on hb
    have hz1 := hb.size
    try simp at hz1
    replace hB := hB.trans (hb.mono hB.size)
    clear hb
    have pr := xr.all4
    have px := xx.all4
    have py := xy.all4
    go_wp2_with fail
    clear pr px py
    refine (HV2.out _ hB).mono ?_
    rintro e w2 ⟨rfl, hb⟩
    replace xr := xr.on hb
    replace xx := xx.on hb
    replace xy := xy.on hb
    have hz2 := hb.size
    try simp at hz2
    replace hB := hB.trans (hb.mono hB.size)
    clear hb
    have pr := xr.all4
    have px := xx.all4
    have py := xy.all4
    go_wp2_with fail
    clear pr px py
    refine (HZ.out _ hB).mono ?_
    rintro e w3 ⟨rfl, hb⟩
    replace xr := xr.on hb
    replace xx := xx.on hb
    replace xy := xy.on hb
    have hz3 := hb.size
    try simp at hz3
    replace hB := hB.trans (hb.mono hB.size)
    clear hb
    have pr := xr.all4
    have px := xx.all4
    have py := xy.all4
    go_wp2_with fail
    clear pr px py
    refine (HN.out _).mono ?_
    rintro e w4 ⟨rfl, hb⟩
    replace xr := xr.on hb
    replace xx := xx.on hb
    replace xy := xy.on hb
    have hz4 := hb.size
    try simp at hz4
    replace hB := hB.trans (hb.mono hB.size)
    clear hb
    have pr := xr.all4
    have px := xx.all4
    have py := xy.all4
    go_wp2_with fail
    clear pr px py
    have qx := xx.lt
    have qy := xy.lt
    obtain ⟨gx0, gx1, gx2, gx3⟩ := xx.cells4
    obtain ⟨gy0, gy1, gy2, gy3⟩ := xy.cells4
    refine wp_region_noPanic ?_
    refine wp_region_held_drew (S := (fun w' => (w'.cell? ⟨BX, 0, none⟩ = some (.bool b) ∧ w'.cell? ⟨BX, 1, none⟩ = some (.slice a k c) ∧ w'.cell? ⟨BX, 2, none⟩ = some (.bool b') ∧ w'.cell? ⟨BX, 3, none⟩ = some (.slice a' k' c')) ∧ w'.cell? ⟨BY, 0, none⟩ = some (.bool ub) ∧ w'.cell? ⟨BY, 1, none⟩ = some (.slice ua uk uc) ∧ w'.cell? ⟨BY, 2, none⟩ = some (.bool ub') ∧ w'.cell? ⟨BY, 3, none⟩ = some (.slice ua' uk' uc'))) (by kernel_rfl) ⟨⟨gx0, gx1, gx2, gx3⟩, ⟨gy0, gy1, gy2, gy3⟩⟩ (fun hR0 => ?_)
    change wpAnyH _ _ _ _ _ 16 #[false, false, false, false, false, false, false, false, false, false, false, false, false, false, false, false] _ _
    clear gx0 gx1 gx2 gx3 gy0 gy1 gy2 gy3
    refine tk (i := 0) (v := ?_) rfl (by kernel_rfl) (fun _ _ _ h => h) (by rfl) ?_ (by assumption) ?_
    rotate_left 1
    · (intro w hSw; (try dsimp only at hSw); go_simp <;> (with_reducible rfl))
    (try simp only [Act.put, sa, List.set])
    refine tk (i := 1) (v := ?_) rfl (by kernel_rfl) (fun _ _ _ h => h) (by rfl) ?_ (by assumption) ?_
    rotate_left 1
    · (intro w hSw; (try dsimp only at hSw); go_simp <;> (with_reducible rfl))
    (try simp only [Act.put, sa, List.set])
    refine tk (i := 2) (v := ?_) rfl (by kernel_rfl) (fun _ _ _ h => h) (by rfl) ?_ (by assumption) ?_
    rotate_left 1
    · (intro w hSw; (try dsimp only at hSw); go_simp <;> (with_reducible rfl))
    (try simp only [Act.put, sa, List.set])
    refine tk (i := 4) (v := ?_) rfl (by kernel_rfl) (fun _ _ _ h => h) (by rfl) ?_ (by assumption) ?_
    rotate_left 1
    · (intro w hSw; (try dsimp only at hSw); go_simp <;> (with_reducible rfl))
    (try simp only [Act.put, sa, List.set])
    refine tk (i := 5) (v := ?_) rfl (by kernel_rfl) (fun _ _ _ h => h) (by rfl) ?_ (by assumption) ?_
    rotate_left 1
    · (intro w hSw; (try dsimp only at hSw); go_simp <;> (with_reducible rfl))
    (try simp only [Act.put, sa, List.set])
    refine tk (i := 6) (v := ?_) rfl (by kernel_rfl) (fun _ _ _ h => h) (by rfl) ?_ (by assumption) ?_
    rotate_left 1
    · (intro w hSw; (try dsimp only at hSw); go_simp <;> (with_reducible rfl))
    (try simp only [Act.put, sa, List.set])
    refine tk (i := 8) (v := ?_) rfl (by kernel_rfl) (fun _ _ _ h => h) (by rfl) ?_ (by assumption) ?_
    rotate_left 1
    · (intro w hSw; (try dsimp only at hSw); go_simp <;> (with_reducible rfl))
    (try simp only [Act.put, sa, List.set])
    refine tk (i := 9) (v := ?_) rfl (by kernel_rfl) (fun _ _ _ h => h) (by rfl) ?_ (by assumption) ?_
    rotate_left 1
    · (intro w hSw; (try dsimp only at hSw); go_simp <;> (with_reducible rfl))
    (try simp only [Act.put, sa, List.set])
    refine tk (i := 10) (v := ?_) rfl (by kernel_rfl) (fun _ _ _ h => h) (by rfl) ?_ (by assumption) ?_
    rotate_left 1
    · (intro w hSw; (try dsimp only at hSw); go_simp <;> (with_reducible rfl))
    (try simp only [Act.put, sa, List.set])
    refine rd1 (i := 3) (by kernel_rfl) rfl (fun K hK => ?_)
    go_simp
    go_at_call 96; have hBd := hB.drew; refine (HF.out _ hBd).mono ?_; rintro e w5 ⟨⟨v1, rfl, gk⟩, hb⟩; replace hb := (Below.refl w4.heap.size w4).drew.trans hb; obtain ⟨b1, a1, k1, c1, rfl⟩ := gk.opened; replace xr := xr.on hb; replace xx := xx.on hb; replace xy := xy.on hb; replace hB := hB.trans (hb.mono hB.size); have hz5 := hb.size
    (try go_wp2_with fail)
    refine hK.out _ _ (⟨keep4 hb qx hR0.1, keep4 hb qy hR0.2⟩) (fun hR1 => ?_)
    clear hK K hR0
    (try simp only [Act.put, sa, List.set])
    replace qx := Nat.lt_of_lt_of_le qx hz5
    replace qy := Nat.lt_of_lt_of_le qy hz5
    clear hb hBd
    refine rd1 (i := 7) (by kernel_rfl) rfl (fun K hK => ?_)
    go_simp
    go_at_call 95; have hBd := hB; refine (HT.out _ _ hBd gk).mono ?_; rintro e w6 ⟨⟨v2, rfl, gp⟩, hb⟩; obtain ⟨b2, a2, k2, c2, rfl⟩ := gp.num.opened; replace gp := gp.num; replace xr := xr.on hb; replace xx := xx.on hb; replace xy := xy.on hb; replace hB := hB.trans (hb.mono hB.size); have hz6 := hb.size
    (try go_wp2_with fail)
    refine hK.out _ _ (⟨keep4 hb qx hR1.1, keep4 hb qy hR1.2⟩) (fun hR2 => ?_)
    clear hK K hR1
    (try simp only [Act.put, sa, List.set])
    replace qx := Nat.lt_of_lt_of_le qx hz6
    replace qy := Nat.lt_of_lt_of_le qy hz6
    clear hb hBd
    refine rd1 (i := 11) (by kernel_rfl) rfl (fun K hK => ?_)
    go_simp
    go_at_call 17; have hBd := hB; refine (HM.out _ _ _ _ _ gp hBd).mono ?_; rintro e w7 ⟨⟨v3, rfl, gm⟩, hb⟩; obtain ⟨b5, a5, k5, c5, b6, a6, k6, c6, rfl⟩ := gm.fra.opened; replace gm := gm.fra; replace xr := xr.on hb; replace xx := xx.on hb; replace xy := xy.on hb; replace hB := hB.trans (hb.mono hB.size); have hz7 := hb.size
    (try go_wp2_with fail)
    refine hK.out _ _ (⟨keep4 hb qx hR2.1, keep4 hb qy hR2.2⟩) (fun hR3 => ?_)
    clear hK K hR2
    (try simp only [Act.put, sa, List.set])
    replace qx := Nat.lt_of_lt_of_le qx hz7
    replace qy := Nat.lt_of_lt_of_le qy hz7
    clear hb hBd
    refine tk (i := 12) (v := ?_) rfl (by kernel_rfl) (fun _ _ _ h => h) (by rfl) ?_ (by assumption) ?_
    rotate_left 1
    · (intro w hSw; (try dsimp only at hSw); go_simp <;> (with_reducible rfl))
    (try simp only [Act.put, sa, List.set])
    refine tk (i := 13) (v := ?_) rfl (by kernel_rfl) (fun _ _ _ h => h) (by rfl) ?_ (by assumption) ?_
    rotate_left 1
    · (intro w hSw; (try dsimp only at hSw); go_simp <;> (with_reducible rfl))
    (try simp only [Act.put, sa, List.set])
    have pr := xr.all4
    refine rd1 (i := 14) (by kernel_rfl) rfl (fun K hK => ?_)
    go_simp
    refine hK.out _ _ (⟨stay4 hR3.1 (by omega), stay4 hR3.2 (by omega)⟩) (fun hR4 => ?_)
    clear hK K hR3
    (try simp only [Act.put, sa, List.set])
    clear pr
    replace gm := gm.setB4 xr rfl (.bool b5) (.slice a5 k5 c5) (.bool b6) (.slice a6 k6 c6) rfl
    replace xx := xx.put_other4 (w.heap.size + 1 + 1) (.bool b5) (.slice a5 k5 c5) (.bool b6) (.slice a6 k6 c6) (by omega)
    replace xy := xy.put_other4 (w.heap.size + 1 + 1) (.bool b5) (.slice a5 k5 c5) (.bool b6) (.slice a6 k6 c6) (by omega)
    replace xr := xr.put4 (.bool b5) (.slice a5 k5 c5) (.bool b6) (.slice a6 k6 c6)
    replace hB := below4 hB (w.heap.size + 1 + 1) (by first | omega | (simp; omega) | simp) (.bool b5) (.slice a5 k5 c5) (.bool b6) (.slice a6 k6 c6)
    refine tk (i := 15) (v := ?_) rfl (by kernel_rfl) (fun _ _ _ h => h) (by rfl) ?_ (by assumption) ?_
    rotate_left 1
    · (intro w hSw; (try dsimp only at hSw); go_simp <;> (with_reducible rfl))
    (try simp only [Act.put, sa, List.set])
    refine wpAnyH_done (by kernel_rfl) ?_ _
    refine NoPanic.normal ?_
    clear hR4
    clear qx qy
    clear xx xy
    generalize ((((w7.setCell ⟨w.heap.size + 1 + 1, 0, none⟩ (.bool b5)).setCell ⟨w.heap.size + 1 + 1, 1, none⟩ (.slice a5 k5 c5)).setCell ⟨w.heap.size + 1 + 1, 2, none⟩ (.bool b6)).setCell ⟨w.heap.size + 1 + 1, 3, none⟩ (.slice a6 k6 c6)) = WF at *
    have pr := xr.all4
    go_wp2
    exact bodyPost_ret (v := .tuple #[.agg #[.bool b5, .slice a5 k5 c5, .bool b6, .slice a6 k6 c6], .int .i64 0]) (by simp [results, Tryz.results27, go_sem, pr]) rfl ⟨⟨_, rfl, gm⟩, hB⟩
set_option maxRecDepth 100000 in
set_option maxHeartbeats 2000000 in
theorem frRound_bad1 (b : Bool) (a : Option Addr) (k c : Nat) (b' : Bool) (a' : Option Addr) (k' c' : Nat) (ub : Bool) (ua : Option Addr) (uk uc : Nat) (ub' : Bool) (ua' : Option Addr) (uk' uc' : Nat) (m : Nat) (l l' : List Nat) (hv : fvld b l b' l' = false) (w : World) (h : Lim w (.slice a k c) l) (hm : Lm l) (h' : Lim w (.slice a' k' c') l') (hm' : Lm l') :
    Calls Tryz.prog 27 #[.agg #[.bool b, .slice a k c, .bool b', .slice a' k' c'], .agg #[.bool ub, .slice ua uk uc, .bool ub', .slice ua' uk' uc'], .int .u8 (m : Int)] w fun e w' => e = .returned (.tuple #[zeroF, .int .i64 2]) ∧ Below w.heap.size w w' := by
  have hv' := fun W (hW : Below w.heap.size w W) => valid_raw b a k c l b' a' k' c' l' W (h.below hW (Nat.le_refl _)) hm (h'.below hW (Nat.le_refl _)) hm'
  rw [hv] at hv'
  have HV1 := Lib.hid hv'
  clear h hm h' hm' hv hv'
  have hB := Below.refl w.heap.size w
  obtain ⟨al, xa, hN⟩ := mk hB #[.bool b, .slice a k c, .bool b', .slice a' k' c'] 26
  replace hB := hN
  clear al hN
  try simp only [World.size_alloc] at xa
  obtain ⟨al, xb, hN⟩ := mk hB #[.bool ub, .slice ua uk uc, .bool ub', .slice ua' uk' uc'] 26
  replace xa := xa.on al
  replace hB := hN
  clear al hN
  try simp only [World.size_alloc] at xb
  obtain ⟨al, xr, hN⟩ := mk hB #[.bool false, .slice none 0 0, .bool false, .slice none 0 0] 26
  replace xa := xa.on al
  replace xb := xb.on al
  replace hB := hN
  clear al hN
  try simp only [World.size_alloc] at xr
  go_enter Tryz.func27, Tryz.ntmps27
  go_upto_region 1 with fail
  have xa1 := xa
  obtain ⟨W0, hW0⟩ : ∃ W, W = (((w.alloc (.cells #[.bool b, .slice a k c, .bool b', .slice a' k' c'] 26)).alloc (.cells #[.bool ub, .slice ua uk uc, .bool ub', .slice ua' uk' uc'] 26)).alloc (.cells #[.bool false, .slice none 0 0, .bool false, .slice none 0 0] 26)) := ⟨_, rfl⟩
  rw [← hW0] at hB xa xb xr ⊢
  clear hW0
  have q0 := xa.lt
  have q1 := xb.lt
  have a0 := xa.cell 0
  have b0 := xb.cell 0
  have a1 := xa.cell 1
  have b1 := xb.cell 1
  have a2 := xa.cell 2
  have b2 := xb.cell 2
  have a3 := xa.cell 3
  have b3 := xb.cell 3
  simp only [List.getElem?_toArray, List.getElem?_cons_zero, List.getElem?_cons_succ] at a0 a1 a2 a3 b0 b1 b2 b3
  clear xa xb xa1
  go_cut [8, 9] (fun s8 s9 wx => ∃ BX BY : Nat, s8 = .pointer (some ⟨BX, 0, none⟩) ∧ s9 = .pointer (some ⟨BY, 0, none⟩) ∧ Bk wx BX #[.bool b, .slice a k c, .bool b', .slice a' k' c'] 85 ∧ Bk wx BY #[.bool ub, .slice ua uk uc, .bool ub', .slice ua' uk' uc'] 85 ∧ Below W0.heap.size W0 wx)
  case first =>
    go_region
    all_goals (go_wp2_with fail; go_meet)
    · obtain ⟨t1, t2, t3⟩ := frpair_new W0 #[.bool b, .slice a k c, .bool b', .slice a' k' c'] #[.bool ub, .slice ua uk uc, .bool ub', .slice ua' uk' uc'] 85
      exact ⟨_, _, rfl, rfl, t1, t2, t3⟩
    · obtain ⟨t1, t2, t3⟩ := frpair_new W0 #[.bool ub, .slice ua uk uc, .bool ub', .slice ua' uk' uc'] #[.bool b, .slice a k c, .bool b', .slice a' k' c'] 85
      exact ⟨_, _, rfl, rfl, t2, t1, t3⟩
  case rest =>
    obtain ⟨BX, BY, rfl, rfl, xx, xy, hb⟩ := hcut
    replace xr := xr.on hb
    replace hB := hB.trans (hb.mono hB.size)
    have hz0 := hb.size
    clear hb q0 q1 a0 a1 a2 a3 b0 b1 b2 b3
    have neX : BX ≠ w.heap.size + 1 + 1 := Bk.ne xx xr (by decide)
    have neY : BY ≠ w.heap.size + 1 + 1 := Bk.ne xy xr (by decide)
    have pr := xr.all4
    have px := xx.all4
    have py := xy.all4
    go_wp2_with fail
    clear pr px py
    refine (HV1.out _ hB).mono ?_
    rintro e w1 ⟨rfl, hb⟩
    replace xr := xr.on hb
    replace xx := xx.on hb
    replace xy := xy.on hb
    have hz1 := hb.size
    try simp at hz1
    replace hB := hB.trans (hb.mono hB.size)
    clear hb
    have pr := xr.all4
    have px := xx.all4
    have py := xy.all4
    go_wp2_with fail
    clear pr px py
    clear xx xy
    replace xr := xr.put4 (.bool false) (.slice none 0 0) (.bool false) (.slice none 0 0)
    replace hB := below4 hB (w.heap.size + 1 + 1) (by first | omega | (simp; omega) | simp) (.bool false) (.slice none 0 0) (.bool false) (.slice none 0 0)
    generalize ((((w1.setCell ⟨w.heap.size + 1 + 1, 0, none⟩ (.bool false)).setCell ⟨w.heap.size + 1 + 1, 1, none⟩ (.slice none 0 0)).setCell ⟨w.heap.size + 1 + 1, 2, none⟩ (.bool false)).setCell ⟨w.heap.size + 1 + 1, 3, none⟩ (.slice none 0 0)) = WF at *
    have pr := xr.all4
    exact bodyPost_ret (v := .tuple #[.agg #[.bool false, .slice none 0 0, .bool false, .slice none 0 0], .int .i64 2]) (by simp [results, Tryz.results27, go_sem, pr]) rfl ⟨rfl, hB⟩
set_option maxRecDepth 100000 in
set_option maxHeartbeats 2000000 in
theorem frRound_bad2 (q : Rat) (b : Bool) (a : Option Addr) (k c : Nat) (b' : Bool) (a' : Option Addr) (k' c' : Nat) (ub : Bool) (ua : Option Addr) (uk uc : Nat) (ub' : Bool) (ua' : Option Addr) (uk' uc' : Nat) (hq : Fz 256 256 q) (m : Nat) (l l' : List Nat) (hv : fvld ub l ub' l' = false) (w : World) (h : Fra w (.agg #[.bool b, .slice a k c, .bool b', .slice a' k' c']) q) (g : Lim w (.slice ua uk uc) l) (hm : Lm l) (g' : Lim w (.slice ua' uk' uc') l') (hm' : Lm l') :
    Calls Tryz.prog 27 #[.agg #[.bool b, .slice a k c, .bool b', .slice a' k' c'], .agg #[.bool ub, .slice ua uk uc, .bool ub', .slice ua' uk' uc'], .int .u8 (m : Int)] w fun e w' => e = .returned (.tuple #[zeroF, .int .i64 2]) ∧ Below w.heap.size w w' := by
  have HV1 := Lib.hid (fun W (hW : Below w.heap.size w W) => valid_ok (.agg #[.bool b, .slice a k c, .bool b', .slice a' k' c']) q hq W (h.below hW (Nat.le_refl _)))
  have hv' := fun W (hW : Below w.heap.size w W) => valid_raw ub ua uk uc l ub' ua' uk' uc' l' W (g.below hW (Nat.le_refl _)) hm (g'.below hW (Nat.le_refl _)) hm'
  rw [hv] at hv'
  have HV2 := Lib.hid hv'
  clear h hq g hm g' hm' hv hv'
  have hB := Below.refl w.heap.size w
  obtain ⟨al, xa, hN⟩ := mk hB #[.bool b, .slice a k c, .bool b', .slice a' k' c'] 26
  replace hB := hN
  clear al hN
  try simp only [World.size_alloc] at xa
  obtain ⟨al, xb, hN⟩ := mk hB #[.bool ub, .slice ua uk uc, .bool ub', .slice ua' uk' uc'] 26
  replace xa := xa.on al
  replace hB := hN
  clear al hN
  try simp only [World.size_alloc] at xb
  obtain ⟨al, xr, hN⟩ := mk hB #[.bool false, .slice none 0 0, .bool false, .slice none 0 0] 26
  replace xa := xa.on al
  replace xb := xb.on al
  replace hB := hN
  clear al hN
  try simp only [World.size_alloc] at xr
  go_enter Tryz.func27, Tryz.ntmps27
  go_upto_region 1 with fail
  have xa1 := xa
  obtain ⟨W0, hW0⟩ : ∃ W, W = (((w.alloc (.cells #[.bool b, .slice a k c, .bool b', .slice a' k' c'] 26)).alloc (.cells #[.bool ub, .slice ua uk uc, .bool ub', .slice ua' uk' uc'] 26)).alloc (.cells #[.bool false, .slice none 0 0, .bool false, .slice none 0 0] 26)) := ⟨_, rfl⟩
  rw [← hW0] at hB xa xb xr ⊢
  clear hW0
  have q0 := xa.lt
  have q1 := xb.lt
  have a0 := xa.cell 0
  have b0 := xb.cell 0
  have a1 := xa.cell 1
  have b1 := xb.cell 1
  have a2 := xa.cell 2
  have b2 := xb.cell 2
  have a3 := xa.cell 3
  have b3 := xb.cell 3
  simp only [List.getElem?_toArray, List.getElem?_cons_zero, List.getElem?_cons_succ] at a0 a1 a2 a3 b0 b1 b2 b3
  clear xa xb xa1
  go_cut [8, 9] (fun s8 s9 wx => ∃ BX BY : Nat, s8 = .pointer (some ⟨BX, 0, none⟩) ∧ s9 = .pointer (some ⟨BY, 0, none⟩) ∧ Bk wx BX #[.bool b, .slice a k c, .bool b', .slice a' k' c'] 85 ∧ Bk wx BY #[.bool ub, .slice ua uk uc, .bool ub', .slice ua' uk' uc'] 85 ∧ Below W0.heap.size W0 wx)
  case first =>
    go_region
    all_goals (go_wp2_with fail; go_meet)
    · obtain ⟨t1, t2, t3⟩ := frpair_new W0 #[.bool b, .slice a k c, .bool b', .slice a' k' c'] #[.bool ub, .slice ua uk uc, .bool ub', .slice ua' uk' uc'] 85
      exact ⟨_, _, rfl, rfl, t1, t2, t3⟩
    · obtain ⟨t1, t2, t3⟩ := frpair_new W0 #[.bool ub, .slice ua uk uc, .bool ub', .slice ua' uk' uc'] #[.bool b, .slice a k c, .bool b', .slice a' k' c'] 85
      exact ⟨_, _, rfl, rfl, t2, t1, t3⟩
  case rest =>
    obtain ⟨BX, BY, rfl, rfl, xx, xy, hb⟩ := hcut
    replace xr := xr.on hb
    replace hB := hB.trans (hb.mono hB.size)
    have hz0 := hb.size
    clear hb q0 q1 a0 a1 a2 a3 b0 b1 b2 b3
    have neX : BX ≠ w.heap.size + 1 + 1 := Bk.ne xx xr (by decide)
    have neY : BY ≠ w.heap.size + 1 + 1 := Bk.ne xy xr (by decide)
    have pr := xr.all4
    have px := xx.all4
    have py := xy.all4
    go_wp2_with fail
    clear pr px py
    refine (HV1.out _ hB).mono ?_
    rintro e w1 ⟨rfl, hb⟩
    replace xr := xr.on hb
    replace xx := xx.on hb
    replace xy := xy.on hb
    have hz1 := hb.size
    try simp at hz1
    replace hB := hB.trans (hb.mono hB.size)
    clear hb
    have pr := xr.all4
    have px := xx.all4
    have py := xy.all4
    go_wp2_with fail
    clear pr px py
    refine (HV2.out _ hB).mono ?_
    rintro e w2 ⟨rfl, hb⟩
    replace xr := xr.on hb
    replace xx := xx.on hb
    replace xy := xy.on hb
    have hz2 := hb.size
    try simp at hz2
    replace hB := hB.trans (hb.mono hB.size)
    clear hb
    have pr := xr.all4
    have px := xx.all4
    have py := xy.all4
    go_wp2_with fail
    clear pr px py
    clear xx xy
    replace xr := xr.put4 (.bool false) (.slice none 0 0) (.bool false) (.slice none 0 0)
    replace hB := below4 hB (w.heap.size + 1 + 1) (by first | omega | (simp; omega) | simp) (.bool false) (.slice none 0 0) (.bool false) (.slice none 0 0)
    generalize ((((w2.setCell ⟨w.heap.size + 1 + 1, 0, none⟩ (.bool false)).setCell ⟨w.heap.size + 1 + 1, 1, none⟩ (.slice none 0 0)).setCell ⟨w.heap.size + 1 + 1, 2, none⟩ (.bool false)).setCell ⟨w.heap.size + 1 + 1, 3, none⟩ (.slice none 0 0)) = WF at *
    have pr := xr.all4
    exact bodyPost_ret (v := .tuple #[.agg #[.bool false, .slice none 0 0, .bool false, .slice none 0 0], .int .i64 2]) (by simp [results, Tryz.results27, go_sem, pr]) rfl ⟨rfl, hB⟩
end Go.Proofs.YtnnnhjgmgomlpaaGreat
namespace Wh
theorem val_take_next (l : List Nat) (k : Nat) : val (l.take (k + 1)) = val (l.take k) + 65536 ^ k * (l[k]?.getD 0) := by
  rcases Nat.lt_or_ge k l.length with h | h
  · exact val_take_succ h
  · rw [List.take_of_length_le (by omega), List.take_of_length_le h, List.getElem?_eq_none h]; simp
theorem val_drop_next (l : List Nat) (k : Nat) : val (l.drop k) = l[k]?.getD 0 + 65536 * val (l.drop (k + 1)) := by
  rcases Nat.lt_or_ge k l.length with h | h
  · exact val_drop_succ h
  · rw [List.drop_of_length_le (by omega), List.drop_of_length_le (by omega), List.getElem?_eq_none h]; simp [val]
theorem dig_of_val {l : List Nat} {n : Nat} (hl : Lm l) (hv : val l = n) (h : l.length = 0 ∨ 65536 ^ (l.length - 1) ≤ n) : l = dig n := by
  refine val_inj hl (dig_Lm n) ?_ (by rw [hv, val_dig])
  have h1 : (dig n).length ≤ l.length := (length_dig_le _ _).2 (by rw [← hv]; exact val_lt hl)
  rcases h with h | h
  · omega
  · rcases Nat.eq_zero_or_pos l.length with h0 | h0
    · omega
    · have : ¬ (dig n).length ≤ l.length - 1 := fun e => by have := (length_dig_le _ _).1 e; omega
      omega
theorem trim_eq {l : List Nat} (hl : Lm l) (n : Nat) (hn : n ≤ l.length) (h0 : ∀ j, n ≤ j → j < l.length → l[j]?.getD 0 = 0) (h1 : n = 0 ∨ l[n - 1]?.getD 0 ≠ 0) : l.take n = dig (val l) := by
  have hv : val (l.take n) = val l := by
    rw [val_take_drop l n]
    have : val (l.drop n) = 0 := val_zero_iff.2 fun x hx => by
      obtain ⟨j, hj, rfl⟩ := List.mem_iff_getElem.1 hx
      have := h0 (n + j) (by omega) (by simp at hj; omega)
      rw [List.getElem_drop]
      rw [getD_lt_length (by simp at hj; omega)] at this
      exact this
    rw [this]; simp
  refine dig_of_val (hl.take n) hv ?_
  rw [List.length_take, Nat.min_eq_left hn]
  rcases h1 with h1 | h1
  · exact .inl h1
  · rcases Nat.eq_zero_or_pos n with h2 | h2
    · exact .inl h2
    · refine .inr ?_
      rw [← hv]
      obtain ⟨m, rfl⟩ : ∃ m, n = m + 1 := ⟨n - 1, by omega⟩
      rw [val_take_next]
      simp only [Nat.add_sub_cancel] at h1 ⊢
      have : 65536 ^ m * 1 ≤ 65536 ^ m * l[m]?.getD 0 := Nat.mul_le_mul_left _ (by omega)
      omega
theorem down_step {a o : List Nat} {i d n : Nat} (hi : i < o.length) (h : val (a.drop (i + 1)) = d * val (o.drop (i + 1)) + n) :
    val (a.drop i) = d * val ((o.set i ((n * 65536 + a[i]?.getD 0) / d)).drop i) + (n * 65536 + a[i]?.getD 0) % d := by
  rw [val_drop_next a, h, val_drop_next (o.set i _) i, List.getElem?_set_self (by simpa using hi), List.drop_set_of_lt (by omega)]
  generalize a[i]?.getD 0 = x
  generalize val (o.drop (i + 1)) = v
  have e := Nat.div_add_mod (n * 65536 + x) d
  simp only [Option.getD_some]
  rw [Nat.mul_add d, show d * (65536 * v) = 65536 * (d * v) from by rw [← Nat.mul_assoc, ← Nat.mul_assoc, Nat.mul_comm d]]
  generalize d * v = u
  omega
theorem down_end {a o : List Nat} {d n : Nat} (hn : n < d) (h : val (a.drop 0) = d * val (o.drop 0) + n) : val o = val a / d ∧ n = val a % d := by
  simp only [List.drop_zero] at h
  rw [h]
  exact ⟨by rw [Nat.mul_add_div (by omega), Nat.div_eq_of_lt hn]; rfl, by rw [Nat.mul_add_mod, Nat.mod_eq_of_lt hn]⟩
end Wh
namespace Go.Proofs.YtnnnhjgmgomlpaaGreat
open Go.RowKit Wh
def TrimRel (l : List Nat) (w : World) (n : Value) (wr : World) : Prop := ∃ k : Nat, k ≤ l.length ∧ n = .int .i64 (k : Int) ∧ (∀ j, k ≤ j → j < l.length → l[j]?.getD 0 = 0) ∧ Below w.heap.size w wr
theorem Fr.upto {B : Nat} {W : World} {a : Option Addr} {n k cap : Nat} (h : Fr B W (.slice a n cap)) (hk : k ≤ n) : Fr B W (.slice a k cap) := by
  rcases h with h | ⟨g, n', cap', cur, T, h1, h2, h3, h4⟩
  · injection h with e1 e2 e3
    subst e1 e2 e3
    obtain rfl : k = 0 := by omega
    exact .inl rfl
  · injection h1 with e1 e2 e3
    subst e1 e2 e3
    exact .inr ⟨g, k, _, cur, T, rfl, h2, h3, h4⟩
set_option maxRecDepth 100000 in
set_option maxHeartbeats 1000000 in
theorem refTrim_any (sv : Value) (l : List Nat) (hl : Lm l) (w : World) (h : Lim w sv l) :
    Calls Tryz.prog 134 #[sv] w fun e w' => (∃ v', e = .returned v' ∧ Lim w' v' (dig (val l)) ∧ ∀ B, Fr B w sv → Fr B w' v') ∧ Below w.heap.size w w' := by
  obtain ⟨a, cap, rfl, hlc, ⟨hcm, hcl, hcn⟩, hcs⟩ := id h
  have HL := Lib.hid h
  clear hcn hcs h
  go_enter Tryz.func134, Tryz.ntmps134
  go_wp2
  go_loopw [3] (fun n wr => TrimRel l w n wr) (fun n _ => (intOf n).toNat)
  case atStart => exact ⟨l.length, Nat.le_refl _, rfl, fun j h1 h2 => by omega, Below.refl _ _⟩
  case round =>
    obtain ⟨k, hk, rfl, hz, hB⟩ := hrel
    have HZ := Lib.hid hz
    clear hz
    have hlr := HL.out.below hB (Nat.le_refl _)
    rcases Nat.eq_zero_or_pos k with h0 | h0
    · subst h0
      have HT := Lib.hid (trim_eq hl 0 (by omega) HZ.out (.inl rfl))
      have HLR := Lib.hid hlr
      clear hlr
      go_wp2
      go_ret
      refine ⟨⟨_, rfl, ?_, fun B hB' => ?_⟩, hB⟩
      · rw [← HT.out]
        exact HLR.out.take (by omega)
      · exact (hB'.below hB).upto (Nat.zero_le _)
    · have hlt : 0 < (k : Int) := by omega
      obtain ⟨b, off, rfl⟩ := lim_addr hlr (by omega)
      have hc := cell_of_lim hlr (k - 1) (by omega)
      have HLR := Lib.hid hlr
      clear hlr
      by_cases hu : l[k - 1]?.getD 0 = 0
      · rw [hu] at hc
        have HZ2 : Hid (∀ j, k - 1 ≤ j → j < l.length → l[j]?.getD 0 = 0) := Lib.hid (fun j h1 h2 => by
          by_cases e : j = k - 1
          · subst e; exact hu
          · exact HZ.out j (by omega) h2)
        clear hu
        go_wp2
        go_roundw
        case rel => exact ⟨k - 1, by omega, by go_num, HZ2.out, hB⟩
        case measure => simp [intOf]; omega
      · have hu' : (((l[k - 1]?.getD 0 : Nat) : Int) == 0) = false := by rw [beq_eq_false_iff_ne]; omega
        have HT := Lib.hid (trim_eq hl k hk HZ.out (.inr hu))
        clear hu
        go_wp2
        go_ret
        refine ⟨⟨_, rfl, ?_, fun B hB' => (hB'.below hB).upto hk⟩, hB⟩
        rw [← HT.out]
        exact HLR.out.take hk
end Go.Proofs.YtnnnhjgmgomlpaaGreat
namespace Go.Proofs.YtnnnhjgmgomlpaaGreat
open Go.RowKit Wh
attribute [local go_sem] Oper.semAt_some
theorem zeros_made (n : Nat) : (madeCells (Value.int .u16 0).cells (n * 1)).toList = cellsOf (List.replicate n 0) := by
  have e : (Value.int .u16 0).cells = #[.int .u16 0] := rfl
  rw [e, Nat.mul_one]
  unfold madeCells cellsOf
  apply List.ext_getElem
  · simp
  · intro i h1 h2
    simp [Nat.mod_one]
theorem Lm.zeros (n : Nat) : Lm (List.replicate n 0) := fun x hx => by rw [List.eq_of_mem_replicate hx]; decide
theorem one_limb (w : World) (r : Nat) : Lim (w.alloc (.cells #[.int .u16 (r : Int)] 62)) (.slice (some ⟨w.heap.size, 0, none⟩) 1 1) [r] ∧
    ∀ B, B ≤ w.heap.size → Fr B (w.alloc (.cells #[.int .u16 (r : Int)] 62)) (.slice (some ⟨w.heap.size, 0, none⟩) 1 1) := by
  refine ⟨⟨some ⟨w.heap.size, 0, none⟩, 1, rfl, by simp, ⟨by omega, by simp, fun e => by cases e⟩, .inr ⟨w.heap.size, 0, rfl, fun j hj => ?_⟩⟩, fun B hB => .inr ⟨w.heap.size, 1, 1, _, _, rfl, hB, World.alloc_heap_new w _, rfl⟩⟩
  have : j = 0 := by simpa using hj
  subst this
  simp
def ShortRel (l : List Nat) (d G : Nat) (w : World) (n i : Value) (wr : World) : Prop :=
  ∃ (k : Nat) (o : List Nat) (r : Nat), k ≤ l.length ∧ i = .int .i64 ((k : Int) - 1) ∧ n = .int .i64 (r : Int) ∧ r < d ∧ o.length = l.length ∧ Lm o ∧ val (l.drop k) = d * val (o.drop k) + r ∧
    wr.ownsRow w.heap.size 62 1 (.slice (some ⟨G, 0, none⟩) l.length l.length) l.length (cellsOf o) ∧ Below w.heap.size w wr
set_option maxRecDepth 100000 in
set_option maxHeartbeats 4000000 in
theorem refshort_any (sv : Value) (l : List Nat) (hl : Lm l) (hn : l.length ≤ 16384) (d : Nat) (hd : 0 < d) (hd2 : d < 65536) (w : World) (h : Lim w sv l) :
    Calls Tryz.prog 159 #[sv, .int .i64 (d : Int)] w fun e w' => (∃ vq vr, e = .returned (.tuple #[vq, vr]) ∧ LimF w.heap.size w' vq (dig (val l / d)) ∧ LimF w.heap.size w' vr (dig (val l % d))) ∧ Below w.heap.size w w' := by
  obtain ⟨i0, hi, hz0, hz1, hz2⟩ := info_parts Tryz.infoU
  obtain ⟨a, cap, rfl, hlc, ⟨hcm, hcl, hcn⟩, hcs⟩ := id h
  have HL := Lib.hid h
  clear hcn hcs h
  have hn' : (l.length : Int) ≤ 16384 := by omega
  have hd' : (0 : Int) < (d : Int) := by omega
  go_enter Tryz.func159, Tryz.ntmps159
  go_wp2_with (at_make; refine wpList_make_full _ rfl _ _ 22 rfl w.heap.size 62 i0 (.int .u16 0) 1 Tryz.underlying22 hi hz0 hz1 _ _ _ _ l.length rfl rfl rfl rfl (by rw [hz2]; omega) (by unfold maxLen; omega) (Nat.le_refl _) ?_; intro w1 hown hgrow)
  rw [zeros_made] at hown
  have hB1 := (Below.refl w.heap.size w).grown hgrow (Nat.le_refl _) (fun k e => by cases e)
  clear hgrow
  go_loopw [7, 8] (fun n i wr => ShortRel l d w.heap.size w n i wr) (fun _ i _ => (intOf i + 1).toNat)
  case atStart => exact ⟨l.length, List.replicate l.length 0, 0, Nat.le_refl _, rfl, rfl, hd, by simp, Lm.zeros _, by simp, hown, hB1⟩
  case round =>
    clear hown hB1
    obtain ⟨k, o, r, hk, rfl, rfl, hr, hol, hom, hv, hrow, hB⟩ := hrel
    have HV := Lib.hid hv
    have HO := Lib.hid hol
    clear hv hol
    rcases Nat.eq_zero_or_pos k with h0 | h0
    · subst h0
      have hend := down_end hr HV.out
      have HE1 := Lib.hid hend.1
      have HE2 := Lib.hid hend.2
      have hlim : Lim wr (.slice (some ⟨w.heap.size, 0, none⟩) l.length l.length) o := Lim.of_owns hrow (by rw [HO.out]; omega)
      have hfr := Fr.of_owns hrow
      clear hend hrow
      go_wp2_with fail
      refine (refTrim_any _ o hom _ hlim).mono ?_
      rintro e w2 ⟨⟨vq, rfl, hq, hqf⟩, hb2⟩
      go_wp2_with fail
      obtain ⟨h1, h2⟩ := one_limb w2 r
      refine (refTrim_any _ [r] (.cons (by omega) .nil) _ h1).mono ?_
      rintro e w3 ⟨⟨vr, rfl, hr', hrf⟩, hb3⟩
      have hal := (Below.refl w2.heap.size w2).alloc (Nat.le_refl _) (.cells #[.int .u16 (r : Int)] 62)
      have hb23 := hal.trans (hb3.mono hal.size)
      have hB2 := hB.trans (hb2.mono hB.size)
      have HQ : Hid (LimF w.heap.size w3 vq (dig (val l / d))) := Lib.hid (by rw [← HE1.out]; exact LimF.below ⟨hq, hqf _ hfr⟩ hb23)
      have HR : Hid (LimF w.heap.size w3 vr (dig (val l % d))) := Lib.hid (by
        rw [← HE2.out]
        have e : val [r] = r := by simp [val]
        rw [e] at hr'
        exact ⟨hr', hrf _ (h2 _ hB2.size)⟩)
      have HB3 := Lib.hid (hB2.trans (hb23.mono hB2.size))
      clear hq hqf hfr hr' hrf hb23 hB2 hal h1 h2 hb2 hb3 hlim
      go_wp2
      go_ret2
      exact ⟨⟨_, _, rfl, HQ.out, HR.out⟩, HB3.out⟩
    · have hlr := HL.out.below hB (Nat.le_refl _)
      obtain ⟨b, off, rfl⟩ := lim_addr hlr (by omega)
      have hc := cell_of_lim hlr (k - 1) (by omega)
      have hu := hl.getD (k - 1)
      have HST := Lib.hid (down_step (a := l) (o := o) (i := k - 1) (d := d) (n := r) (by have := HO.out; omega) (by rw [show k - 1 + 1 = k by omega]; exact HV.out))
      obtain ⟨u, hu'⟩ : ∃ u : Nat, u = l[k - 1]?.getD 0 := ⟨_, rfl⟩
      rw [← hu'] at hc hu HST
      clear hu' hlr
      have hfro := hrow.frozenAt (k - 1)
      have hcell := hrow.cellAt (k - 1) (by omega)
      rw [cellsOf_get _ _ (by rw [HO.out]; omega)] at hcell
      have HR := Lib.hid hrow
      clear hrow
      have i1 : (1 : Int) ≤ (k : Int) := by omega
      have i2 : (0 : Int) ≤ (k : Int) - 1 := by omega
      have i3 : ((k : Int) - 1) < (l.length : Int) := by omega
      have i4 : ((k : Int) - 1).toNat = k - 1 := by omega
      have q1 : (0 : Int) ≤ (r : Int) * 65536 + (u : Int) := by omega
      have q2 : (r : Int) * 65536 + (u : Int) ≤ 4294967295 := by omega
      have hq : (r * 65536 + u) / d < 65536 := Nat.div_lt_of_lt_mul (by have : r + 1 ≤ d := hr; have := Nat.mul_le_mul_right 65536 this; omega)
      have q3 : IntKind.u16.wrap (((r : Int) * 65536 + (u : Int)) / (d : Int)) = (((r * 65536 + u) / d : Nat) : Int) := by
        rw [show ((r : Int) * 65536 + (u : Int)) / (d : Int) = (((r * 65536 + u) / d : Nat) : Int) from by simp, wrap_u16_nat, Nat.mod_eq_of_lt hq]
      clear hq
      have w1 : IntKind.i64.wrap ((r : Int) * 65536) = (r : Int) * 65536 := IntWalk.i64_in _ (by omega)
      have w2 : IntKind.i64.wrap ((r : Int) * 65536 + (u : Int)) = (r : Int) * 65536 + (u : Int) := IntWalk.i64_in _ (by omega)
      go_wp2
      have hx : ((r : Int) * 65536 + (u : Int)) / (d : Int) = (((r * 65536 + u) / d : Nat) : Int) := by simp
      have hy : ((r : Int) * 65536 + (u : Int)) % (d : Int) = (((r * 65536 + u) % d : Nat) : Int) := by simp
      have hq : (r * 65536 + u) / d < 65536 := Nat.div_lt_of_lt_mul (by have : r + 1 ≤ d := hr; have := Nat.mul_le_mul_right 65536 this; omega)
      have hs := (HR.out.stored (k - 1) (.int .u16 (((r * 65536 + u) / d : Nat) : Int))).1
      rw [cellsOf_set] at hs
      rw [hx, hy]
      refine ⟨⟨k - 1, _, _, by omega, by rw [show ((k - 1 : Nat) : Int) = (k : Int) - 1 by omega], rfl, Nat.mod_lt _ hd, by rw [List.length_set]; exact HO.out, hom.set _ hq, HST.out, hs, hB.setCell (Nat.le_refl _) _⟩, by simp [intOf]; omega⟩
end Go.Proofs.YtnnnhjgmgomlpaaGreat
