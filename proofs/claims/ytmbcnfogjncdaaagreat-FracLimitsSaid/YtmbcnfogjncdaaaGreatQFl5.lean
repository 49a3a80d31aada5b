/- A part of the proofs about fractions. -/
import Derived.Deep.RegionWith
import Derived.Test.YtmbcnfogjncdaaaGreatQFl4
set_option maxRecDepth 100000
set_option maxHeartbeats 1000000
namespace Go.Proofs.YtmbcnfogjncdaaaGreat
open Go.RowKit Wh
theorem carry_range {P q c x : Int} (hq0 : 0 ≤ q) (hq : q < P) (h : q + P * c = x) (h1 : -P < x) (h2 : x < P) : -1 ≤ c ∧ c ≤ 0 := by
  constructor
  · apply Int.not_lt.1
    intro hc
    have : P * c ≤ P * (-2) := Int.mul_le_mul_of_nonneg_left (by omega) (by omega)
    omega
  · apply Int.not_lt.1
    intro hc
    have : P * 1 ≤ P * c := Int.mul_le_mul_of_nonneg_left (by omega) (by omega)
    omega
theorem guess_ge {p V D p3 b2 : Nat} (hp : p < (p3 + 1) * D) (hV : b2 * D ≤ V) (hb : 0 < b2) : p / V ≤ p3 / b2 := by
 rw [Nat.le_div_iff_mul_le hb]
 have h1 : p / V * V ≤ p := Nat.div_mul_le_self p V
 have h2 : p / V * (b2 * D) ≤ p / V * V := Nat.mul_le_mul_left _ hV
 have h3 : p / V * b2 * D < (p3 + 1) * D := by rw [Nat.mul_assoc]; omega
 have := Nat.lt_of_mul_lt_mul_right h3
 omega
theorem Lim.drop {W : World} {b off n cap : Nat} {l : List Nat} (h : Lim W (.slice (some ⟨b, off, none⟩) n cap) l) {k : Nat} (hk : k ≤ n) : Lim W (.slice (some ⟨b, off + k, none⟩) (n - k) (cap - k)) (l.drop k) := by
  obtain ⟨a', cap', e, h1, h2, h⟩ := h
  cases e
  refine ⟨some ⟨b, off + k, none⟩, cap - k, by simp, by simp; omega, ⟨by omega, by simp; omega, fun e => by cases e⟩, ?_⟩
  rcases h with rfl | ⟨b', off', e, hc⟩
  · exact .inl (by simp)
  · cases e
    refine .inr ⟨b, off + k, rfl, fun j hj => ?_⟩
    simp at hj
    rw [List.getElem?_drop, Nat.add_assoc]
    exact hc (k + j) (by omega)
theorem Lim.of_row {W : World} {base G N i n c0 : Nat} {R : List Nat} (hrow : W.ownsRow base 59 1 (.slice (some ⟨G, 0, none⟩) N N) N (cellsOf R)) (hin : i + n ≤ N) (hn : n ≤ c0) (hc0 : c0 ≤ 1048576) : Lim W (.slice (some ⟨G, i, none⟩) n c0) ((R.drop i).take n) := by
 have hlen : R.length = N := by have := hrow.1; simpa [cellsOf] using this
 have hl : ((R.drop i).take n).length = n := by simp; omega
 refine ⟨some ⟨G, i, none⟩, c0, by rw [hl], by omega, ⟨by omega, by omega, fun e => by cases e⟩, .inr ⟨G, i, rfl, fun j hj => ?_⟩⟩
 rw [hl] at hj
 rw [hrow.cellAt (i + j) (by omega), cellsOf_get _ _ (by omega), List.getElem?_take_of_lt hj, List.getElem?_drop]
theorem slice_from (W : World) (a : Addr) (n cap k : Nat) (hk : k ≤ n) (hc : k < cap) :
  (Instr.slice 22 (.slice (some a) n cap) (some (.int .i64 (k : Int))) none none).run Tryz.prog W = .ok (.slice (some (a.add k)) (n - k) (cap - k)) W := by
 have ht : Tryz.prog.underlying 22 = some (.slice (Tryz.prog.elem 22)) := by kernel_rfl
 have hz : (sizeOf (Tryz.prog.elem 22)).run Tryz.prog W = .ok 1 W := by kernel_rfl
 rw [run_slice_l (w := W) (t := 22) (a := some a) (len := n) (cap := cap) ht .i64 (k : Int) (by omega) (by omega), hz]
 simp only [Result.andThen, sliced, Int.toNat_natCast, Nat.mul_one, Option.map_some]
 rw [if_neg (by omega)]
theorem take_init {P0 lb : List Nat} {k : Nat} (hP : Lm P0) (hPl : P0.length = k + 3) (hll : lb.length = k + 2) (htop : 0 < val (lb.drop k)) :
  min (val P0 / val lb) 65535 ≤ min (val (P0.drop k) / val (lb.drop k)) 65535 := by
 have e1 := val_take_drop P0 k
 have e2 := val_take_drop lb k
 rw [hPl, Nat.min_eq_left (by omega)] at e1
 rw [hll, Nat.min_eq_left (by omega)] at e2
 have h1 := val_lt (hP.take k)
 rw [List.length_take, hPl, Nat.min_eq_left (by omega)] at h1
 have := guess_ge (p := val P0) (V := val lb) (D := 65536 ^ k) (p3 := val (P0.drop k)) (b2 := val (lb.drop k))
  (by rw [e1, Nat.add_mul, Nat.mul_comm (65536 ^ k)]; omega) (by rw [Nat.mul_comm (val (lb.drop k)), e2]; omega) htop
 omega
theorem take_carry {P0 lb Q : List Nat} {k g : Nat} {c : Int} (hP : Lm P0) (hPl : P0.length = k + 3) (hlb : Lm lb) (hll : lb.length = k + 2) (hQ : Lm Q) (hQl : Q.length = k + 3) (hg : g ≤ 65535)
  (h : (val Q : Int) + ((65536 ^ (k + 3) : Nat) : Int) * c = (val P0 : Int) - (g : Int) * (val lb : Int)) : -1 ≤ c ∧ c ≤ 0 := by
 have h1 := val_lt hP
 have h2 := val_lt hlb
 have h3 := val_lt hQ
 rw [hPl] at h1
 rw [hll] at h2
 rw [hQl] at h3
 have h4 : g * val lb ≤ 65535 * val lb := Nat.mul_le_mul_right _ hg
 have h5 : (65536 : Nat) ^ (k + 3) = 65536 ^ (k + 2) * 65536 := Nat.pow_succ _ _
 have h6 : (g : Int) * (val lb : Int) = ((g * val lb : Nat) : Int) := by rw [Int.natCast_mul]
 rw [h6] at h
 refine carry_range (P := ((65536 ^ (k + 3) : Nat) : Int)) (by omega) (by omega) h (by omega) (by omega)
theorem splice_drop_take {R Q : List Nat} {i n : Nat} (hQ : Q.length = n) (h : i + n ≤ R.length) : ((splice R i Q).drop i).take n = Q := by
 unfold splice
 rw [List.append_assoc, List.drop_append_of_le_length (by simp; omega), List.drop_eq_nil_of_le (by simp; omega), List.nil_append, List.take_append_of_le_length (by omega), List.take_of_length_le (by omega)]
theorem splice_splice {R Q Q' : List Nat} {i : Nat} (hQ : Q.length = Q'.length) (h : i + Q.length ≤ R.length) : splice (splice R i Q) i Q' = splice R i Q' := by
 have e1 : (splice R i Q).take i = R.take i := by
  unfold splice
  rw [List.append_assoc, List.take_append_of_le_length (by simp; omega), List.take_take, Nat.min_self]
 have e2 : (splice R i Q).drop (i + Q'.length) = R.drop (i + Q'.length) := by
  unfold splice
  have e3 : (R.take i ++ Q).length = i + Q'.length := by simp; omega
  rw [← e3, List.drop_left, e3, hQ]
 show (splice R i Q).take i ++ Q' ++ (splice R i Q).drop (i + Q'.length) = R.take i ++ Q' ++ R.drop (i + Q'.length)
 rw [e1, e2]
def TakeRel (G N i k : Nat) (R lb : List Nat) (base : Nat) (w : World) (g c : Value) (wr : World) : Prop :=
 ∃ (Q : List Nat) (gi : Nat) (ci : Int), Q.length = k + 3 ∧ g = .int .u64 (gi : Int) ∧ c = .int .i64 ci ∧ Lm Q ∧ gi ≤ 65535 ∧ min (val ((R.drop i).take (k + 3)) / val lb) 65535 ≤ gi ∧ -1 ≤ ci ∧ ci ≤ 0 ∧
  (val Q : Int) + ((65536 ^ (k + 3) : Nat) : Int) * ci = (val ((R.drop i).take (k + 3)) : Int) - (gi : Int) * (val lb : Int) ∧
  wr.ownsRow base 59 1 (.slice (some ⟨G, 0, none⟩) N N) N (cellsOf (splice R i Q)) ∧ w.grownBy wr (some G)
theorem takeOut_any (G N i k c0 base bb bo capb : Nat) (R lb : List Nat) (hR : Lm R) (hlb : Lm lb) (hin : i + (k + 3) ≤ N) (hN : N ≤ 1048576) (hc0 : k + 3 ≤ c0) (hc1 : c0 ≤ 1048576) (htop : 0 < val (lb.drop k)) (w : World)
    (hrow : w.ownsRow base 59 1 (.slice (some ⟨G, 0, none⟩) N N) N (cellsOf R)) (h : Lim w (.slice (some ⟨bb, bo, none⟩) (k + 2) capb) lb) (hsep : bb ≠ G) :
    Calls Tryz.prog 166 #[.slice (some ⟨G, i, none⟩) (k + 3) c0, .slice (some ⟨bb, bo, none⟩) (k + 2) capb] w fun e w' =>
      (∃ Q : List Nat, Q.length = k + 3 ∧ Lm Q ∧ e = .returned (.int .u16 ((min (val ((R.drop i).take (k + 3)) / val lb) 65535 : Nat) : Int)) ∧ val Q = val ((R.drop i).take (k + 3)) - min (val ((R.drop i).take (k + 3)) / val lb) 65535 * val lb ∧
        w'.ownsRow base 59 1 (.slice (some ⟨G, 0, none⟩) N N) N (cellsOf (splice R i Q))) ∧ w.grownBy w' (some G) := by
  have hcap : k + 2 ≤ capb ∧ capb ≤ 9223372036854775807 ∧ lb.length = k + 2 := by
    obtain ⟨a', cap', e, h1, h2, _⟩ := h
    injection e with e1 e2 e3
    exact ⟨by omega, by omega, e2.symm⟩
  obtain ⟨hcb1, hcb2, hlen⟩ := hcap
  have hP := Lim.of_row hrow hin hc0 hc1
  have hPl := hP.drop (k := k) (by omega)
  have hBl := h.drop (k := k) (by omega)
  have hPm : Lm (((R.drop i).take (k + 3)).drop k) := ((hR.drop _).take _).drop _
  have hBm : Lm (lb.drop k) := hlb.drop _
  rw [show k + 3 - k = 3 from by omega] at hPl
  rw [show k + 2 - k = 2 from by omega] at hBl
  have HL := Lib.hid hlen
  clear hlen
  have e3 : val (((R.drop i).take (k + 3)).drop k) % 18446744073709551616 = val (((R.drop i).take (k + 3)).drop k) := by
    have := val_lt hPm
    simp only [List.length_drop, List.length_take] at this
    rw [show min (k + 3) (R.length - i) - k = 3 from by have := hrow.1; simp [cellsOf] at this; omega] at this
    exact Nat.mod_eq_of_lt (by omega)
  have e2 : val (lb.drop k) % 18446744073709551616 = val (lb.drop k) := by
    have := val_lt hBm
    rw [List.length_drop, HL.out, show k + 2 - k = 2 from by omega] at this
    exact Nat.mod_eq_of_lt (by omega)
  have hW1 : ∀ W, Below w.heap.size w W → Calls Tryz.prog 55 #[.slice (some ⟨G, i + k, none⟩) 3 (c0 - k)] W fun e W' => e = .returned (.int .u64 ((val (((R.drop i).take (k + 3)).drop k) : Nat) : Int)) ∧ Below w.heap.size w W' := fun W hW =>
    (word_any _ _ hPm W (hPl.below hW (Nat.le_refl _))).mono fun e W' hh => ⟨by rw [← e3]; exact hh.1, hW.trans (hh.2.mono hW.size)⟩
  have hW2 : ∀ W, Below w.heap.size w W → Calls Tryz.prog 55 #[.slice (some ⟨bb, bo + k, none⟩) 2 (capb - k)] W fun e W' => e = .returned (.int .u64 ((val (lb.drop k) : Nat) : Int)) ∧ Below w.heap.size w W' := fun W hW =>
    (word_any _ _ hBm W (hBl.below hW (Nat.le_refl _))).mono fun e W' hh => ⟨by rw [← e2]; exact hh.1, hW.trans (hh.2.mono hW.size)⟩
  have HW1 := Lib.hid hW1
  have HW2 := Lib.hid hW2
  have hb0 := Below.refl w.heap.size w
  have hp3b := val_lt hPm
  rw [show (((R.drop i).take (k + 3)).drop k).length = 3 from by have := hrow.1; simp [cellsOf] at this ⊢; omega] at hp3b
  generalize hp3 : val (((R.drop i).take (k + 3)).drop k) = p3 at *
  generalize hb2 : val (lb.drop k) = b2 at *
  have HP3 := Lib.hid hp3
  have HB2 := Lib.hid hb2
  clear hW1 hW2 e3 e2 hp3 hb2 hPl hBl hPm hBm hP
  have hs1 := fun W => slice_from W ⟨G, i, none⟩ (k + 3) c0 k (by omega) (by omega)
  have hs2 := fun W => slice_from W ⟨bb, bo, none⟩ (k + 2) capb k (by omega) (by omega)
  rw [add_eq] at hs1 hs2
  rw [show k + 3 - k = 3 from by omega] at hs1
  rw [show k + 2 - k = 2 from by omega] at hs2
  obtain ⟨z, hz⟩ : ∃ z, z = p3 / b2 := ⟨_, rfl⟩
  obtain ⟨g0, hg0⟩ : ∃ g0, g0 = min z 65535 := ⟨_, rfl⟩
  have hzb : z ≤ p3 := by rw [hz]; exact Nat.div_le_self _ _
  have q4 : IntKind.u64.wrap ((p3 : Int) / (b2 : Int)) = (z : Int) := by
    rw [IntKind.wrap_u64, hz]
    rw [show (p3 : Int) / (b2 : Int) = ((p3 / b2 : Nat) : Int) from rfl]
    rw [← hz]
    omega
  have q5 : (if 65535 < (z : Int) then (65535 : Int) else (z : Int)) = (g0 : Int) := by
    split <;> omega
  have hg1 : g0 ≤ 65535 := by omega
  have HZ := Lib.hid hz
  have HG := Lib.hid hg0
  clear hz hg0
  have q1 : IntKind.i64.wrap ((k : Int) + 2 - 2) = (k : Int) := by rw [show (k : Int) + 2 - 2 = (k : Int) from by omega]; exact IntWalk.i64_in _ (by omega)
  have q2 : IntKind.i64.wrap (k : Int) = (k : Int) := IntWalk.i64_in _ (by omega)
  go_enter Tryz.func166, Tryz.ntmps166
  go_wp2
  go_region_with (first | (go_at_call_of 55 (Value.slice (some ⟨G, i + k, none⟩) 3 (c0 - k)); refine (HW1.out _ (by first | assumption | exact Below.drew (by assumption))).mono ?_; rintro e W1 ⟨rfl, hbW1⟩) | (go_at_call_of 55 (Value.slice (some ⟨bb, bo + k, none⟩) 2 (capb - k)); refine (HW2.out _ (by first | assumption | exact Below.drew (by assumption))).mono ?_; rintro e W1 ⟨rfl, hbW1⟩))
  clear q1 q2 q4 q5
  go_wp2_with (go_at_call 208; refine (addTimes_any G N i (k + 3) c0 base R _ lb hR hlb _ (by omega) (by omega) hin hN hc0 hc1 _ (ownsRow_below hrow (by first | assumption | exact Below.drew (by assumption))) (h.below (by first | assumption | exact Below.drew (by assumption)) (Nat.le_refl _)) (by simpa [Value.ownBlock] using hsep)).mono ?_; rintro e W3 ⟨⟨Q, ci, hQ, hQm, rfl, c1, c2, hv, hrow3⟩, hg3⟩)
  have hlenR : R.length = N := by have := hrow.1; simpa [cellsOf] using this
  have hP0 : Lm ((R.drop i).take (k + 3)) := (hR.drop _).take _
  have hP0l : ((R.drop i).take (k + 3)).length = k + 3 := by simp; omega
  have hg1' : w.grownBy W3 (some G) := (World.grownBy.trans ⟨hbW1.os, hbW1.tape, hbW1.output, hbW1.size, fun j hj _ => hbW1.block j hj⟩ hg3)
  have hinit := take_init hP0 hP0l HL.out (by rw [HB2.out]; exact htop)
  rw [HP3.out, HB2.out, ← HZ.out, ← HG.out] at hinit
  rw [List.take_of_length_le (show lb.length ≤ k + 3 by rw [HL.out]; omega)] at hv
  have hv' : (val Q : Int) + ((65536 ^ (k + 3) : Nat) : Int) * ci = (val ((R.drop i).take (k + 3)) : Int) - (g0 : Int) * (val lb : Int) := by
    rw [hv, Int.neg_mul]; omega
  obtain ⟨c3, c4⟩ := take_carry hP0 hP0l hlb HL.out hQm hQ hg1 hv'
  have HR0 := Lib.hid hlenR
  have HP0l := Lib.hid hP0l
  have HST : Hid (TakeRel G N i k R lb base w (.int .u64 (g0 : Int)) (.int .i64 ci) W3) := ⟨Q, g0, ci, hQ, rfl, rfl, hQm, hg1, hinit, c3, c4, hv', hrow3, hg1'⟩
  clear hlenR hP0l hv hv' hinit hQ hrow3 hg1' hg3 hbW1
  go_loopw [6, 7] (fun g c wr => TakeRel G N i k R lb base w g c wr) (fun g _ _ => (intOf g).toNat)
  case atStart => exact HST.out
  case round =>
    obtain ⟨Q, gi, ci, hQ, rfl, rfl, hQm, hg1, hge, c3, c4, hv, hrow4, hg4⟩ := hrel
    have HQ := Lib.hid hQ
    have HV := Lib.hid hv
    have HGE := Lib.hid hge
    clear hQ hv hge
    have hRl := HR0.out
    have hLw : Lim wr (.slice (some ⟨bb, bo, none⟩) (k + 2) capb) lb := h.kept hg4 (fun r e => by cases e; simpa [Value.ownBlock] using hsep)
    by_cases hc : ci < 0
    · have hgt : min (val ((R.drop i).take (k + 3)) / val lb) 65535 + 1 ≤ gi := by
        have hv := HV.out
        have hq := val_lt hQm
        rw [HQ.out] at hq
        have hneg : (val ((R.drop i).take (k + 3)) : Int) < (gi : Int) * (val lb : Int) := by
          have : ((65536 ^ (k + 3) : Nat) : Int) * ci ≤ ((65536 ^ (k + 3) : Nat) : Int) * (-1) := Int.mul_le_mul_of_nonneg_left (by omega) (by omega)
          omega
        rw [← Int.natCast_mul] at hneg
        have hneg2 : val ((R.drop i).take (k + 3)) < gi * val lb := by omega
        have := Nat.div_lt_of_lt_mul (show val ((R.drop i).take (k + 3)) < val lb * gi by rw [Nat.mul_comm]; exact hneg2)
        omega
      have hgp : 1 ≤ gi := Nat.le_trans (Nat.le_add_left 1 _) hgt
      have hrl : (splice R i Q).length = N := by rw [splice_length (by rw [HQ.out]; omega)]; exact hRl
      have HGT := Lib.hid hgt
      have HRL := Lib.hid hrl
      clear hgt hRl hrl
      go_wp2_with (go_at_call 208; refine (addTimes_any G N i (k + 3) c0 base (splice R i Q) _ lb (splice_Lm hR hQm) hlb _ (by omega) (by omega) hin hN hc0 hc1 _ hrow4 hLw (by simpa [Value.ownBlock] using hsep)).mono ?_; rintro e W5 ⟨⟨Q', ci', hQ', hQm', rfl, c5, c6, hv', hrow5⟩, hg5⟩)
      rw [splice_splice (by rw [HQ.out, hQ']) (by rw [HQ.out, HR0.out]; exact hin)] at hrow5
      rw [splice_drop_take HQ.out (by rw [HR0.out]; exact hin), List.take_of_length_le (show lb.length ≤ k + 3 by rw [HL.out]; omega)] at hv'
      have hv2 : (val Q' : Int) + ((65536 ^ (k + 3) : Nat) : Int) * (ci + ci') = (val ((R.drop i).take (k + 3)) : Int) - ((gi - 1 : Nat) : Int) * (val lb : Int) := by
        have hv := HV.out
        rw [Int.mul_add, show ((gi - 1 : Nat) : Int) = (gi : Int) - 1 from by omega, Int.sub_mul]
        omega
      obtain ⟨c7, c8⟩ := take_carry hP0 HP0l.out hlb HL.out hQm' hQ' (by omega) hv2
      exact ⟨⟨Q', gi - 1, ci + ci', hQ', by go_num, rfl, hQm', by omega, Nat.le_sub_of_add_le HGT.out, c7, c8, hv2, hrow5, hg4.trans hg5⟩, by simp [intOf]; omega⟩
    · have hci : ci = 0 := by omega
      have hv := HV.out
      rw [hci, Int.mul_zero, Int.add_zero, ← Int.natCast_mul] at hv
      have hv3 : val Q = val ((R.drop i).take (k + 3)) - gi * val lb := by omega
      have hle : gi * val lb ≤ val ((R.drop i).take (k + 3)) := by omega
      have hV0 : 0 < val lb := by
        have e := val_take_drop lb k
        rw [HL.out, Nat.min_eq_left (by omega)] at e
        have : 0 < 65536 ^ k * val (lb.drop k) := Nat.mul_pos (Nat.pos_of_ne_zero (by simp)) (by rw [HB2.out]; exact htop)
        omega
      have hdiv : gi ≤ val ((R.drop i).take (k + 3)) / val lb := (Nat.le_div_iff_mul_le hV0).2 hle
      have heq : gi = min (val ((R.drop i).take (k + 3)) / val lb) 65535 := Nat.le_antisymm (Nat.le_min.2 ⟨hdiv, hg1⟩) HGE.out
      have HEQ := Lib.hid heq
      have HV3 := Lib.hid hv3
      clear hv hv3 hle hdiv heq hci hRl
      go_wp2
      go_ret
      rw [← HEQ.out]
      exact ⟨⟨Q, HQ.out, hQm, rfl, HV3.out, hrow4⟩, hg4⟩
end Go.Proofs.YtmbcnfogjncdaaaGreat
namespace Go.Proofs.YtmbcnfogjncdaaaGreat
open Go.RowKit Wh
theorem dig_last_ne {n : Nat} (h : n ≠ 0) : (dig n)[(dig n).length - 1]?.getD 0 ≠ 0 := by
 have hne : dig n ≠ [] := fun e => h ((dig_nil_iff n).1 e)
 have hp : 0 < (dig n).length := List.length_pos_iff.2 hne
 rw [getD_lt_length (by omega), ← List.getLast_eq_getElem]
 exact dig_last n hne
theorem Fr.own {B : Nat} {W : World} {v : Value} (h : Fr B W v) : ∀ r, r < B → v.ownBlock ≠ some r := by
 intro r hr
 rcases h with rfl | ⟨g, n, cap, cur, T, rfl, h2, _⟩
 · simp [Value.ownBlock]
 · simp [Value.ownBlock]; omega
theorem box2 {N : Nat} {T : TypeId} {w w2 : World} {v0 v1 vq vr : Value} {lq lr : List Nat} (bQ : Boxed w2 (N + 1) T v0) (bR : Boxed w2 (N + 1 + 1) T v1) (hq : LimF (N + 1 + 1 + 1) w2 vq lq) (hr : LimF (N + 1 + 1 + 1) w2 vr lr) (hB : Below N w w2) :
  ((w2.setCell ⟨N + 1, 0, none⟩ vq).setCell ⟨N + 1 + 1, 0, none⟩ vr).cell? ⟨N + 1, 0, none⟩ = some vq ∧ ((w2.setCell ⟨N + 1, 0, none⟩ vq).setCell ⟨N + 1 + 1, 0, none⟩ vr).cell? ⟨N + 1 + 1, 0, none⟩ = some vr ∧
   LimF N ((w2.setCell ⟨N + 1, 0, none⟩ vq).setCell ⟨N + 1 + 1, 0, none⟩ vr) vq lq ∧ LimF N ((w2.setCell ⟨N + 1, 0, none⟩ vq).setCell ⟨N + 1 + 1, 0, none⟩ vr) vr lr ∧ Below N w ((w2.setCell ⟨N + 1, 0, none⟩ vq).setCell ⟨N + 1 + 1, 0, none⟩ vr) := by
 have g1 := grownBy_setCell' w2 (N + 1) vq
 have g2 := grownBy_setCell' (w2.setCell ⟨N + 1, 0, none⟩ vq) (N + 1 + 1) vr
 refine ⟨((bQ.set vq).kept g2 (by simp)).cell, ((bR.kept g1 (by simp <;> omega)).set vr).cell, ?_, ?_, (hB.setCell (p := ⟨N + 1, 0, none⟩) (by simp) vq).setCell (p := ⟨N + 1 + 1, 0, none⟩) (by simp; omega) vr⟩
 · exact ((hq.kept g1 (fun r e => hq.2.own r (by cases e; omega))).kept g2 (fun r e => hq.2.own r (by cases e; omega))).mono (by omega)
 · exact ((hr.kept g1 (fun r e => hr.2.own r (by cases e; omega))).kept g2 (fun r e => hr.2.own r (by cases e; omega))).mono (by omega)
theorem divide_less (sa sb : Value) (m n : Nat) (hmn : m < n) (w : World) (h : Lim w sa (dig m)) (g : Lim w sb (dig n)) :
  Calls Tryz.prog 130 #[sa, sb] w fun e w' => (∃ vq vr, e = .returned (.tuple #[vq, vr]) ∧ LimF w.heap.size w' vq (dig (m / n)) ∧ LimF w.heap.size w' vr (dig (m % n))) ∧ Below w.heap.size w w' := by
 have hcmp : cmpL (dig m) (dig n) = -1 := by rw [cmp_dig]; simp [cmpN, hmn]
 have e1 : m / n = 0 := Nat.div_eq_of_lt hmn
 have e2 : m % n = m := Nat.mod_eq_of_lt hmn
 rw [e1, e2, dig_zero]
 obtain ⟨a, cap, rfl, _⟩ := id h
 obtain ⟨b, capb, rfl, _⟩ := id g
 have hw1 := fun W (hW : Below w.heap.size w W) => (compare_any _ _ _ _ (dig_Lm m) (dig_Lm n) W (h.below hW (Nat.le_refl _)) (g.below hW (Nat.le_refl _)))
 rw [hcmp] at hw1
 have HW1 := Lib.hid hw1
 have H := Lib.hid h
 clear hw1 hcmp e1 e2 h g
 have b1 : Below w.heap.size w (((w.alloc (.cells #[.slice b (dig n).length capb] 22)).alloc (.cells #[.slice none 0 0] 22)).alloc (.cells #[.slice none 0 0] 22)) :=
  (((Below.refl _ w).alloc (Nat.le_refl _) _).alloc (by simp) _).alloc (by simp; omega) _
 have bQ := (Boxed.new (w.alloc (.cells #[.slice b (dig n).length capb] 22)) 22 (.slice none 0 0)).alloc (.cells #[.slice none 0 0] 22)
 have bR := Boxed.new ((w.alloc (.cells #[.slice b (dig n).length capb] 22)).alloc (.cells #[.slice none 0 0] 22)) 22 (.slice none 0 0)
 rw [World.size_alloc] at bQ
 rw [World.size_alloc, World.size_alloc] at bR
 have HB := Lib.hid b1
 clear b1
 go_enter Tryz.func130, Tryz.ntmps130
 go_wp2_with (first | (go_at_call 142; refine (HW1.out _ HB.out).mono ?_; rintro e w1 ⟨rfl, hb1⟩; have bQ1 := Boxed.below bQ hb1; have bR1 := Boxed.below bR hb1; have hB1 := HB.out.trans (hb1.mono HB.out.size)) | (go_at_call 164; refine (copied_any _ _ _ (H.out.below hB1 (Nat.le_refl _))).mono ?_; rintro e w2 ⟨⟨v', rfl, hl', hown⟩, hb2⟩; obtain ⟨a', cap', rfl, _⟩ := id hl'; have bQ2 := Boxed.below bQ1 hb2; have bR2 := Boxed.below bR1 hb2; have cQ := bQ2.cell; have fQ := bQ2.frozen; have cR := bR2.cell; have fR := bR2.frozen))
 have hs1 : w.heap.size + 1 + 1 + 1 ≤ w1.heap.size := by have := hb1.size; simp at this; omega
 obtain ⟨x1, x2, x3, x4, x5⟩ := box2 bQ2 bR2 (LimF.nil _ _) ⟨hl', (Fr.of_owns hown).mono hs1⟩ (hB1.trans (hb2.mono (by omega)))
 exact bodyPost_ret (v := .tuple #[.slice none 0 0, .slice a' (dig m).length cap']) (by simp [results, Tryz.results130, go_sem, x1, x2]) rfl ⟨⟨_, _, rfl, x3, x4⟩, x5⟩
theorem divide_short (sa sb : Value) (m n : Nat) (hmn : n ≤ m) (hn0 : n ≠ 0) (hn3 : (dig n).length ≤ 3) (hm : (dig m).length ≤ 1048000) (w : World) (h : Lim w sa (dig m)) (g : Lim w sb (dig n)) :
  Calls Tryz.prog 130 #[sa, sb] w fun e w' => (∃ vq vr, e = .returned (.tuple #[vq, vr]) ∧ LimF w.heap.size w' vq (dig (m / n)) ∧ LimF w.heap.size w' vr (dig (m % n))) ∧ Below w.heap.size w w' := by
 have hcmp : 0 ≤ cmpL (dig m) (dig n) ∧ cmpL (dig m) (dig n) ≤ 1 := by
  rw [cmp_dig]; unfold cmpN
  rw [if_neg (by omega)]
  split <;> omega
 obtain ⟨cm, hcm⟩ : ∃ cm, cm = cmpL (dig m) (dig n) := ⟨_, rfl⟩
 rw [← hcm] at hcmp
 obtain ⟨cm1, cm2⟩ := hcmp
 have hnb : n < 281474976710656 := by
  have := (length_dig_le n 3).1 hn3
  simpa using this
 obtain ⟨a, cap, rfl, _⟩ := id h
 obtain ⟨b, capb, rfl, _⟩ := id g
 have hw1 := fun W (hW : Below w.heap.size w W) => (compare_any _ _ _ _ (dig_Lm m) (dig_Lm n) W (h.below hW (Nat.le_refl _)) (g.below hW (Nat.le_refl _)))
 rw [← hcm] at hw1
 have hw2 := fun W (hW : Below w.heap.size w W) => (word_any _ _ (dig_Lm n) W (g.below hW (Nat.le_refl _)))
 rw [val_dig, Nat.mod_eq_of_lt (show n < 18446744073709551616 by omega)] at hw2
 have hw3 := fun W (hW : Below w.heap.size w W) => (divideShort_any _ _ (dig_Lm m) hm n (Nat.pos_of_ne_zero hn0) hnb W (h.below hW (Nat.le_refl _)))
 rw [val_dig] at hw3
 have hmod : m % n < 18446744073709551616 := by have := Nat.mod_lt m (Nat.pos_of_ne_zero hn0); omega
 have HW1 := Lib.hid hw1
 have HW2 := Lib.hid hw2
 have HW3 := Lib.hid hw3
 clear hw1 hw2 hw3 hcm h g
 have b1 : Below w.heap.size w (((w.alloc (.cells #[.slice b (dig n).length capb] 22)).alloc (.cells #[.slice none 0 0] 22)).alloc (.cells #[.slice none 0 0] 22)) :=
  (((Below.refl _ w).alloc (Nat.le_refl _) _).alloc (by simp) _).alloc (by simp; omega) _
 have bB := ((Boxed.new w 22 (.slice b (dig n).length capb)).alloc (.cells #[.slice none 0 0] 22)).alloc (.cells #[.slice none 0 0] 22)
 have bQ := (Boxed.new (w.alloc (.cells #[.slice b (dig n).length capb] 22)) 22 (.slice none 0 0)).alloc (.cells #[.slice none 0 0] 22)
 have bR := Boxed.new ((w.alloc (.cells #[.slice b (dig n).length capb] 22)).alloc (.cells #[.slice none 0 0] 22)) 22 (.slice none 0 0)
 rw [World.size_alloc] at bQ
 rw [World.size_alloc, World.size_alloc] at bR
 have HB := Lib.hid b1
 clear b1
 obtain ⟨r, hr⟩ : ∃ r, r = m % n := ⟨_, rfl⟩
 have HR := Lib.hid hr
 rw [← hr] at hmod HW3 ⊢
 clear hr
 go_enter Tryz.func130, Tryz.ntmps130
 go_wp2_with (first
  | (go_at_call 142; refine (HW1.out _ HB.out).mono ?_; rintro e w1 ⟨rfl, hb1⟩; have bB1 := Boxed.below bB hb1; have cB1 := bB1.cell; have bQ1 := Boxed.below bQ hb1; have bR1 := Boxed.below bR hb1; have hB1 := HB.out.trans (hb1.mono HB.out.size))
  | (go_at_call 55; refine (HW2.out _ hB1).mono ?_; rintro e w2 ⟨rfl, hb2⟩; have bQ2 := Boxed.below bQ1 hb2; have bR2 := Boxed.below bR1 hb2; have hB2 := hB1.trans (hb2.mono hB1.size))
  | (go_at_call 133; refine (HW3.out _ hB2).mono ?_; rintro e w3 ⟨⟨vq, rfl, hlq⟩, hb3⟩; obtain ⟨aq, capq, rfl, _⟩ := id hlq.1; have bQ3 := Boxed.below bQ2 hb3; have bR3 := Boxed.below bR2 hb3; have hB3 := hB2.trans (hb3.mono hB2.size))
  | (go_at_call 65; refine (limbsOf_any _ hmod _).mono ?_; rintro e w4 ⟨⟨vr, rfl, hlr⟩, hb4⟩; obtain ⟨ar, capr, rfl, _⟩ := id hlr.1; have bQ4 := Boxed.below bQ3 hb4; have bR4 := Boxed.below bR3 hb4; have hB4 := hB3.trans (hb4.mono hB3.size); have cQ := bQ4.cell; have fQ := bQ4.frozen; have cR := bR4.cell; have fR := bR4.frozen))
 have hs1 : w.heap.size + 1 + 1 + 1 ≤ w1.heap.size := by have := hb1.size; simp at this; omega
 have hs2 := hb2.size
 have hs3 := hb3.size
 obtain ⟨x1, x2, x3, x4, x5⟩ := box2 bQ4 bR4 ((hlq.below hb4).mono (by omega)) (hlr.mono (by omega)) hB4
 exact bodyPost_ret (v := .tuple #[.slice aq (dig (m / n)).length capq, .slice ar (dig r).length capr]) (by simp [results, Tryz.results130, go_sem, x1, x2]) rfl ⟨⟨_, _, rfl, x3, x4⟩, x5⟩
end Go.Proofs.YtmbcnfogjncdaaaGreat
namespace Go.Proofs.YtmbcnfogjncdaaaGreat
open Go.RowKit Go.Shelf Wh
attribute [local go_sem] Oper.semAt_some
def U16 (b off n : Nat) (W : World) : Prop := ∀ j, j < n → ∃ u : Nat, W.cell? ⟨b, off + j, none⟩ = some (.int .u16 (u : Int))
def KpQ (Bs b off n : Nat) (W W' : World) : Prop := (∀ v, W.cell? ⟨Bs, 0, none⟩ = some v → W'.cell? ⟨Bs, 0, none⟩ = some v) ∧ (U16 b off n W → U16 b off n W')
theorem KpQ.refl (Bs b off n : Nat) (W : World) : KpQ Bs b off n W W := ⟨fun _ h => h, id⟩
theorem KpQ.trans {Bs b off n : Nat} {A B C : World} (h : KpQ Bs b off n A B) (k : KpQ Bs b off n B C) : KpQ Bs b off n A C := ⟨fun v e => k.1 v (h.1 v e), fun u => k.2 (h.2 u)⟩
theorem KpQ.putObj {Bs b off n : Nat} {w : World} (W : World) (l : Nat) (o o' : Obj) (_ : w.heap.size ≤ l) (h : W.heap[l]? = some o) (h1 : o.isCells = false) (_ : o.isWalk = false) : KpQ Bs b off n W (W.putObj l o') :=
 ⟨fun _ e => cell_kept e (grownBy_putObj' W l o') (fun r er => by cases er; exact ⟨_, h, h1⟩), fun u j hj => let ⟨x, hx⟩ := u j hj; ⟨x, cell_kept hx (grownBy_putObj' W l o') (fun r er => by cases er; exact ⟨_, h, h1⟩)⟩⟩
abbrev Iy (n : Nat) := { p : Nat × Nat // p.1 < n }
def ency (n : Nat) (x : Iy n) : Array Value := #[.int .i64 ((x.1.1 : Nat) : Int), .int .u16 ((x.1.2 : Nat) : Int)]
def Yall (n : Nat) (ys : List (Iy n)) : Prop := ys.map (fun x => x.1.1) = (List.range n).reverse
def Ypre (n : Nat) (pre : List (Iy n)) : Prop := ∃ k, k ≤ n ∧ pre.map (fun x => x.1.1) = (List.range n).reverse.take k
theorem down2_in (F : Fence) (n : Nat) (hf : F.fn 169) (hro : F.round = none) (hn : 1 ≤ n) (y Bs b off m cap : Nat) (hcap : m ≤ 70368744175616) (J Jx : List (Iy m) → World → Prop)
    (hY : ∀ pre x W, J pre W → pre.length < m → YieldAt F (n - 1) Tryz.prog y (ency m x) W fun e W' =>
      (e = .returned (.bool true) ∧ J (pre ++ [x]) W' ∧ KpQ Bs b off m W W') ∨ (e = .returned (.bool false) ∧ Jx (pre ++ [x]) W'))
    (W : World) (hBs : W.cell? ⟨Bs, 0, none⟩ = some (.slice (some ⟨b, off, none⟩) m cap)) (hu : U16 b off m W) (h0 : J [] W) :
    CallsIn F n Tryz.prog 169 #[.func (.yield y) #[] #[], .pointer (some ⟨Bs, 0, none⟩)] W fun e W' => (∃ v, e = .returned v) ∧
      ((∃ ys, Yall m ys ∧ J ys W') ∨ (∃ pre, Ypre m pre ∧ Jx pre W')) := by
  refine callsIn_of_wp Tryz.func169 rfl hf ?_ hro
  simp only [Tryz.ntmps169, List.size_toArray, List.length_cons, List.length_nil, Nat.reduceAdd, Nat.reduceSub, Array.replicate_succ, Array.replicate_zero, List.push_toArray, List.append_toArray, List.nil_append, List.cons_append]
  gi_wp2
  gi_loopw [3] (fun i wr => ∃ (j : Nat) (pre : List (Iy m)), j ≤ m ∧ i = .int .i64 ((j : Int) - 1) ∧ pre.map (fun x => x.1.1) = (List.range m).reverse.take (m - j) ∧ J pre wr ∧ KpQ Bs b off m W wr)
    (fun i _ => (intOf i + 1).toNat)
  case atStart => exact ⟨m, [], Nat.le_refl _, rfl, by simp, h0, KpQ.refl _ _ _ _ _⟩
  case round =>
    obtain ⟨j, pre, hj, rfl, hpre, hJs, hnx⟩ := hrel
    have hBx : wr.cell? ⟨Bs, 0, none⟩ = some (.slice (some ⟨b, off, none⟩) m cap) := hnx.1 _ hBs
    have hlen : pre.length = m - j := by have := congrArg List.length hpre; simp at this; omega
    have hux := hnx.2 hu
    cases j with
    | zero =>
      rw [show ((0 : Nat) : Int) - 1 = -1 from rfl]
      have hpre' : pre.map (fun x => x.1.1) = (List.range m).reverse := by
        rw [hpre, List.take_of_length_le (by simp)]
      clear hpre hlen hBs hu hux
      have H := Lib.hid hpre'
      clear hpre'
      gi_wp2
      go_end0
      exact ⟨⟨_, rfl⟩, .inl ⟨pre, H.out, hJs⟩⟩
    | succ k =>
      rw [show ((k + 1 : Nat) : Int) - 1 = (k : Int) from by omega]
      obtain ⟨x, hcx⟩ := hux k (by omega)
      have hlt : k < m := by omega
      obtain ⟨fn, tmps, assign, body, hy, hR⟩ := hY pre ⟨(k, x), hlt⟩ wr hJs (by omega)
      dsimp only [ency] at hy
      have hpre' : (pre ++ [(⟨(k, x), hlt⟩ : Iy m)]).map (fun x => x.1.1) = (List.range m).reverse.take (m - k) := by
        rw [List.map_append, hpre, take_down hj]; rfl
      have H := Lib.hid hpre'
      clear hpre hlen hBs hu hux hpre'
      gi_wp2
      refine hR.mono ?_
      rintro e W3 (⟨rfl, hJ3, hk3⟩ | ⟨rfl, hJx3⟩)
      · gi_wp2
        go_roundw
        case rel => exact ⟨k, _, by omega, by go_num, H.out, hJ3, hnx.trans hk3⟩
        case measure => simp [intOf]
      · gi_wp2
        refine bodyPost_ret (results_none rfl _ _ _) rfl ?_
        exact ⟨⟨_, rfl⟩, .inr ⟨_, ⟨m - k, by omega, H.out⟩, hJx3⟩⟩
theorem down2_stops (F : Fence) (n : Nat) (hf : F.fn 169) (hro : F.round = none) (hn : 1 ≤ n) (Bs b off m cap : Nat) (hm : m ≤ 70368744175616) (w : World) (hBs : Bs < w.heap.size)
  (hc : w.cell? ⟨Bs, 0, none⟩ = some (.slice (some ⟨b, off, none⟩) m cap)) (hb : b < w.heap.size) (hu : U16 b off m w) :
  SeqStopsK F n Tryz.prog 169 #[.pointer (some ⟨Bs, 0, none⟩)] (ency m) (KpQ Bs b off m) (Yall m) (Ypre m) m w := fun y J Jx W hW _ _ hY h0 =>
 down2_in F n hf hro hn y Bs b off m cap hm J Jx hY W ((hW.cell (p := ⟨Bs, 0, none⟩) hBs).trans hc) (fun j hj => let ⟨x, hx⟩ := hu j hj; ⟨x, (hW.cell (p := ⟨b, off + j, none⟩) hb).trans hx⟩) h0
end Go.Proofs.YtmbcnfogjncdaaaGreat
namespace Go.Proofs.YtmbcnfogjncdaaaGreat
open Go.RowKit Wh
def DivInv (A V k : Nat) (R Q : List Nat) : Prop := val R + V * val Q = A ∧ val R < V * 65536 ^ k ∧ ∀ j, j < k → Q[j]?.getD 0 = 0
theorem val_take_of_lt {l : List Nat} {n : Nat} (h : val l < 65536 ^ n) : val (l.take n) = val l ∧ val (l.drop n) = 0 := by
  have e := val_take_drop l n
  by_cases hn : n ≤ l.length
  · rw [Nat.min_eq_left hn] at e
    have : val (l.drop n) = 0 := by
      apply Nat.eq_zero_of_not_pos
      intro hp
      have : 65536 ^ n * 1 ≤ 65536 ^ n * val (l.drop n) := Nat.mul_le_mul_left _ hp
      omega
    rw [this] at e
    exact ⟨by omega, this⟩
  · rw [List.take_of_length_le (by omega), List.drop_eq_nil_of_le (by omega)]
    exact ⟨rfl, rfl⟩
theorem div_step {A V k L : Nat} {R Q P' : List Nat} (hR : Lm R) (hV0 : 0 < V) (hV : V < 65536 ^ L) (hfit : k + (L + 1) ≤ R.length) (hQ : k < Q.length) (hinv : DivInv A V (k + 1) R Q) (hPl : P'.length = L + 1)
    (hP : val P' = val ((R.drop k).take (L + 1)) - min (val ((R.drop k).take (L + 1)) / V) 65535 * V) :
    DivInv A V k (splice R k P') (Q.set k (min (val ((R.drop k).take (L + 1)) / V) 65535)) := by
  obtain ⟨h1, h2, h3⟩ := hinv
  have e := val_take_drop R k
  rw [Nat.min_eq_left (by omega)] at e
  have ht := val_lt (hR.take k)
  rw [List.length_take, Nat.min_eq_left (by omega)] at ht
  have hp0 : 0 < 65536 ^ k := Nat.pos_of_ne_zero (by simp)
  have hd : val (R.drop k) < V * 65536 := by
    apply Nat.lt_of_mul_lt_mul_left (a := 65536 ^ k)
    have : 65536 ^ k * (V * 65536) = V * 65536 ^ (k + 1) := by rw [Nat.pow_succ, Nat.mul_left_comm]
    omega
  have hps : (65536 : Nat) ^ (L + 1) = 65536 ^ L * 65536 := Nat.pow_succ _ _
  have hd2 : val (R.drop k) < 65536 ^ (L + 1) := by omega
  obtain ⟨t1, t2⟩ := val_take_of_lt hd2
  rw [t1] at hP ⊢
  have hg : val (R.drop k) / V < 65536 := by rw [Nat.div_lt_iff_lt_mul hV0, Nat.mul_comm]; exact hd
  rw [Nat.min_eq_left (by omega)] at hP ⊢
  generalize hD : val (R.drop k) = D at *
  have hm : D - D / V * V = D % V := by have := Nat.div_add_mod D V; rw [Nat.mul_comm] at this; omega
  rw [hm] at hP
  have hmV := Nat.mod_lt D hV0
  have hs : val (splice R k P') = val (R.take k) + 65536 ^ k * (D % V) := by
    unfold splice
    rw [val_append, val_append, hP]
    have e2 : R.drop (k + P'.length) = (R.drop k).drop (L + 1) := by rw [List.drop_drop, hPl]
    rw [e2, t2, List.length_take, Nat.min_eq_left (by omega)]
    simp
  have hdm := Nat.div_add_mod D V
  refine ⟨?_, ?_, fun j hj => ?_⟩
  · rw [hs, val_set hQ (h3 k (by omega)), ← h1, e, Nat.mul_add]
    have : 65536 ^ k * D = 65536 ^ k * (V * (D / V)) + 65536 ^ k * (D % V) := by rw [← Nat.mul_add, hdm]
    have e4 : V * (65536 ^ k * (D / V)) = 65536 ^ k * (V * (D / V)) := Nat.mul_left_comm _ _ _
    omega
  · rw [hs]
    have : 65536 ^ k * (D % V + 1) ≤ 65536 ^ k * V := Nat.mul_le_mul_left _ hmV
    rw [Nat.mul_add, Nat.mul_one] at this
    rw [Nat.mul_comm V]
    omega
  · rw [List.getElem?_set_ne (by omega)]; exact h3 j (by omega)
theorem div_end {A V : Nat} {R Q : List Nat} (hV0 : 0 < V) (h : DivInv A V 0 R Q) : val Q = A / V ∧ val R = A % V := by
 obtain ⟨h1, h2, _⟩ := h
 rw [Nat.pow_zero, Nat.mul_one] at h2
 rw [← h1]
 constructor
 · rw [Nat.add_mul_div_left _ _ hV0, Nat.div_eq_of_lt h2, Nat.zero_add]
 · rw [Nat.add_mul_mod_self_left, Nat.mod_eq_of_lt h2]
theorem mod_mul_div {m n f : Nat} (hf : 0 < f) : (m * f) % (n * f) / f = m % n ∧ (m * f) / (n * f) = m / n := by
 constructor
 · rw [Nat.mul_mod_mul_right, Nat.mul_div_cancel _ hf]
 · rw [Nat.mul_div_mul_right _ _ hf]
theorem scaled {n j L : Nat} (hL : (dig n).length = L + 1) (h1 : (dig n)[L]?.getD 0 * 2 ^ j < 65536) (h2 : 32768 ≤ (dig n)[L]?.getD 0 * 2 ^ j) :
    n * 2 ^ j < 65536 ^ (L + 1) ∧ (dig (n * 2 ^ j)).length = L + 1 := by
  have hv := val_take_drop (dig n) L
  rw [val_dig, hL, Nat.min_eq_left (by omega), List.drop_eq_getElem_cons (by omega), val_cons, ← getD_lt_length (by omega), List.drop_eq_nil_of_le (by omega)] at hv
  simp only [val_nil, Nat.mul_zero, Nat.add_zero] at hv
  have ht := val_lt ((dig_Lm n).take L)
  rw [List.length_take, hL, Nat.min_eq_left (by omega)] at ht
  generalize (dig n)[L]?.getD 0 = t at *
  have hj : j < 17 := by
    apply Nat.lt_of_not_le
    intro hge
    have : 2 ^ 17 ≤ 2 ^ j := Nat.pow_le_pow_right (by omega) hge
    have : 1 ≤ t := by
      apply Nat.pos_of_ne_zero
      rintro rfl
      omega
    have : 1 * 2 ^ j ≤ t * 2 ^ j := Nat.mul_le_mul_right _ this
    omega
  have hq : 2 ^ j * 2 ^ (17 - j) = 2 * 65536 := by rw [← Nat.pow_add, show j + (17 - j) = 17 from by omega]
  have hup : (t + 1) * 2 ^ j ≤ 65536 := by
    by_cases hj16 : j ≤ 16
    · have hq2 : 2 ^ j * 2 ^ (16 - j) = 65536 := by rw [← Nat.pow_add, show j + (16 - j) = 16 from by omega]
      have hlt : t < 2 ^ (16 - j) := by
        apply Nat.lt_of_mul_lt_mul_left (a := 2 ^ j)
        rw [hq2, Nat.mul_comm]; exact h1
      have := Nat.mul_le_mul_right (2 ^ j) hlt
      rw [Nat.mul_comm (2 ^ (16 - j)), hq2] at this
      exact this
    · omega
  have hlt : n < 65536 ^ L * (t + 1) := by rw [Nat.mul_add]; omega
  have hlow : 65536 ^ L * t ≤ n := by omega
  have hub : n * 2 ^ j < 65536 ^ (L + 1) := by
    have a1 := Nat.mul_lt_mul_of_pos_right hlt (Nat.pos_of_ne_zero (show 2 ^ j ≠ 0 by simp))
    rw [Nat.mul_assoc] at a1
    have a2 := Nat.mul_le_mul_left (65536 ^ L) hup
    rw [Nat.pow_succ]
    omega
  refine ⟨hub, Nat.le_antisymm ((length_dig_le _ _).2 hub) ?_⟩
  apply Nat.lt_of_not_le
  intro hle
  have a1 := (length_dig_le _ _).1 hle
  have a2 := Nat.mul_le_mul_right (2 ^ j) hlow
  rw [Nat.mul_assoc] at a2
  have a3 := Nat.mul_le_mul_left (65536 ^ L) (show 1 ≤ t * 2 ^ j by omega)
  omega
end Go.Proofs.YtmbcnfogjncdaaaGreat
