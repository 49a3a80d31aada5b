/-
'takeOut': how often a number fits into a part of a row, and what is left of the part.
-/
import Derived.Deep.RegionWith
import Derived.Test.YtodmbklednehbaaAdd
namespace Go.Proofs.Ytodmbklednehbaa
open Go.RowKit Wh

theorem carry_range {P q c x : Int} (hq0 : 0 ≤ q) (hq : q < P) (h : q + P * c = x) (h1 : -P < x) (h2 : x < P) : -1 ≤ c ∧ c ≤ 0 := by
  constructor
  · apply Int.not_lt.1
    intro hc
    have : P * c ≤ P * (-2) := Int.mul_le_mul_of_nonneg_left (by omega) (by omega)
    omega
  · apply Int.not_lt.1
    intro hc
    have : P * 1 ≤ P * c := Int.mul_le_mul_of_nonneg_left (by omega) (by omega)
    omega

/-- The guess by the leading limbs is never too small. -/
theorem guess_ge {p V D p3 b2 : Nat} (hp : p < (p3 + 1) * D) (hV : b2 * D ≤ V) (hb : 0 < b2) : p / V ≤ p3 / b2 := by
  rw [Nat.le_div_iff_mul_le hb]
  have h1 : p / V * V ≤ p := Nat.div_mul_le_self p V
  have h2 : p / V * (b2 * D) ≤ p / V * V := Nat.mul_le_mul_left _ hV
  have h3 : p / V * b2 * D < (p3 + 1) * D := by rw [Nat.mul_assoc]; omega
  have := Nat.lt_of_mul_lt_mul_right h3
  omega

theorem Lim.drop {W : World} {b off n cap : Nat} {l : List Nat} (h : Lim W (.slice (some ⟨b, off, none⟩) n cap) l) {k : Nat} (hk : k ≤ n) : Lim W (.slice (some ⟨b, off + k, none⟩) (n - k) (cap - k)) (l.drop k) := by
  obtain ⟨a', cap', e, h1, h2, h⟩ := h
  cases e
  refine ⟨some ⟨b, off + k, none⟩, cap - k, by simp, by simp; omega, ⟨by omega, by simp; omega, fun e => by cases e⟩, ?_⟩
  rcases h with rfl | ⟨b', off', e, hc⟩
  · exact .inl (by simp)
  · cases e
    refine .inr ⟨b, off + k, rfl, fun j hj => ?_⟩
    simp at hj
    rw [List.getElem?_drop, Nat.add_assoc]
    exact hc (k + j) (by omega)

/-- A part of a row of one's own, as limbs. -/
theorem Lim.of_row {W : World} {base G N i n c0 : Nat} {R : List Nat} (hrow : W.ownsRow base 22 1 (.slice (some ⟨G, 0, none⟩) N N) N (cellsOf R)) (hin : i + n ≤ N) (hn : n ≤ c0) (hc0 : c0 ≤ 1048576) : Lim W (.slice (some ⟨G, i, none⟩) n c0) ((R.drop i).take n) := by
  have hlen : R.length = N := by have := hrow.1; simpa [cellsOf] using this
  have hl : ((R.drop i).take n).length = n := by simp; omega
  refine ⟨some ⟨G, i, none⟩, c0, by rw [hl], by omega, ⟨by omega, by omega, fun e => by cases e⟩, .inr ⟨G, i, rfl, fun j hj => ?_⟩⟩
  rw [hl] at hj
  rw [hrow.cellAt (i + j) (by omega), cellsOf_get _ _ (by omega), List.getElem?_take_of_lt hj, List.getElem?_drop]

theorem slice_from (W : World) (a : Addr) (n cap k : Nat) (hk : k ≤ n) (hc : k < cap) :
    (Instr.slice 24 (.slice (some a) n cap) (some (.int .i64 (k : Int))) none none).run Try.prog W = .ok (.slice (some (a.add k)) (n - k) (cap - k)) W := by
  have ht : Try.prog.underlying 24 = some (.slice (Try.prog.elem 24)) := by kernel_rfl
  have hz : (sizeOf (Try.prog.elem 24)).run Try.prog W = .ok 1 W := by kernel_rfl
  rw [run_slice_l (w := W) (t := 24) (a := some a) (len := n) (cap := cap) ht .i64 (k : Int) (by omega) (by omega), hz]
  simp only [Result.andThen, sliced, Int.toNat_natCast, Nat.mul_one, Option.map_some]
  rw [if_neg (by omega)]

theorem take_init {P0 lb : List Nat} {k : Nat} (hP : Lm P0) (hPl : P0.length = k + 3) (hll : lb.length = k + 2) (htop : 0 < val (lb.drop k)) :
    min (val P0 / val lb) 65535 ≤ min (val (P0.drop k) / val (lb.drop k)) 65535 := by
  have e1 := val_take_drop P0 k
  have e2 := val_take_drop lb k
  rw [hPl, Nat.min_eq_left (by omega)] at e1
  rw [hll, Nat.min_eq_left (by omega)] at e2
  have h1 := val_lt (hP.take k)
  rw [List.length_take, hPl, Nat.min_eq_left (by omega)] at h1
  have := guess_ge (p := val P0) (V := val lb) (D := 65536 ^ k) (p3 := val (P0.drop k)) (b2 := val (lb.drop k))
    (by rw [e1, Nat.add_mul, Nat.mul_comm (65536 ^ k)]; omega) (by rw [Nat.mul_comm (val (lb.drop k)), e2]; omega) htop
  omega

/-- What the carry can be: what is left is less than a row, and more than minus one. -/
theorem take_carry {P0 lb Q : List Nat} {k g : Nat} {c : Int} (hP : Lm P0) (hPl : P0.length = k + 3) (hlb : Lm lb) (hll : lb.length = k + 2) (hQ : Lm Q) (hQl : Q.length = k + 3) (hg : g ≤ 65535)
    (h : (val Q : Int) + ((65536 ^ (k + 3) : Nat) : Int) * c = (val P0 : Int) - (g : Int) * (val lb : Int)) : -1 ≤ c ∧ c ≤ 0 := by
  have h1 := val_lt hP
  have h2 := val_lt hlb
  have h3 := val_lt hQ
  rw [hPl] at h1
  rw [hll] at h2
  rw [hQl] at h3
  have h4 : g * val lb ≤ 65535 * val lb := Nat.mul_le_mul_right _ hg
  have h5 : (65536 : Nat) ^ (k + 3) = 65536 ^ (k + 2) * 65536 := Nat.pow_succ _ _
  have h6 : (g : Int) * (val lb : Int) = ((g * val lb : Nat) : Int) := by rw [Int.natCast_mul]
  rw [h6] at h
  refine carry_range (P := ((65536 ^ (k + 3) : Nat) : Int)) (by omega) (by omega) h (by omega) (by omega)

theorem splice_drop_take {R Q : List Nat} {i n : Nat} (hQ : Q.length = n) (h : i + n ≤ R.length) : ((splice R i Q).drop i).take n = Q := by
  unfold splice
  rw [List.append_assoc, List.drop_append_of_le_length (by simp; omega), List.drop_eq_nil_of_le (by simp; omega), List.nil_append, List.take_append_of_le_length (by omega), List.take_of_length_le (by omega)]
theorem splice_splice {R Q Q' : List Nat} {i : Nat} (hQ : Q.length = Q'.length) (h : i + Q.length ≤ R.length) : splice (splice R i Q) i Q' = splice R i Q' := by
  have e1 : (splice R i Q).take i = R.take i := by
    unfold splice
    rw [List.append_assoc, List.take_append_of_le_length (by simp; omega), List.take_take, Nat.min_self]
  have e2 : (splice R i Q).drop (i + Q'.length) = R.drop (i + Q'.length) := by
    unfold splice
    have e3 : (R.take i ++ Q).length = i + Q'.length := by simp; omega
    rw [← e3, List.drop_left, e3, hQ]
  show (splice R i Q).take i ++ Q' ++ (splice R i Q).drop (i + Q'.length) = R.take i ++ Q' ++ R.drop (i + Q'.length)
  rw [e1, e2]

def TakeRel (G N i k : Nat) (R lb : List Nat) (base : Nat) (w : World) (g c : Value) (wr : World) : Prop :=
  ∃ (Q : List Nat) (gi : Nat) (ci : Int), Q.length = k + 3 ∧ g = .int .u64 (gi : Int) ∧ c = .int .i64 ci ∧ Lm Q ∧ gi ≤ 65535 ∧ min (val ((R.drop i).take (k + 3)) / val lb) 65535 ≤ gi ∧ -1 ≤ ci ∧ ci ≤ 0 ∧
    (val Q : Int) + ((65536 ^ (k + 3) : Nat) : Int) * ci = (val ((R.drop i).take (k + 3)) : Int) - (gi : Int) * (val lb : Int) ∧
    wr.ownsRow base 22 1 (.slice (some ⟨G, 0, none⟩) N N) N (cellsOf (splice R i Q)) ∧ w.grownBy wr (some G)

set_option maxRecDepth 100000 in
set_option maxHeartbeats 1000000 in
theorem takeOut_any (G N i k c0 base bb bo capb : Nat) (R lb : List Nat) (hR : Lm R) (hlb : Lm lb) (hin : i + (k + 3) ≤ N) (hN : N ≤ 1048576) (hc0 : k + 3 ≤ c0) (hc1 : c0 ≤ 1048576) (htop : 0 < val (lb.drop k)) (w : World)
    (hrow : w.ownsRow base 22 1 (.slice (some ⟨G, 0, none⟩) N N) N (cellsOf R)) (h : Lim w (.slice (some ⟨bb, bo, none⟩) (k + 2) capb) lb) (hsep : bb ≠ G) :
    Calls Try.prog 71 #[.slice (some ⟨G, i, none⟩) (k + 3) c0, .slice (some ⟨bb, bo, none⟩) (k + 2) capb] w fun e w' =>
      (∃ Q : List Nat, Q.length = k + 3 ∧ Lm Q ∧ e = .returned (.int .u16 ((min (val ((R.drop i).take (k + 3)) / val lb) 65535 : Nat) : Int)) ∧ val Q = val ((R.drop i).take (k + 3)) - min (val ((R.drop i).take (k + 3)) / val lb) 65535 * val lb ∧
        w'.ownsRow base 22 1 (.slice (some ⟨G, 0, none⟩) N N) N (cellsOf (splice R i Q))) ∧ w.grownBy w' (some G) := by
  have hcap : k + 2 ≤ capb ∧ capb ≤ 9223372036854775807 ∧ lb.length = k + 2 := by
    obtain ⟨a', cap', e, h1, h2, _⟩ := h
    injection e with e1 e2 e3
    exact ⟨by omega, by omega, e2.symm⟩
  obtain ⟨hcb1, hcb2, hlen⟩ := hcap
  have hP := Lim.of_row hrow hin hc0 hc1
  have hPl := hP.drop (k := k) (by omega)
  have hBl := h.drop (k := k) (by omega)
  have hPm : Lm (((R.drop i).take (k + 3)).drop k) := ((hR.drop _).take _).drop _
  have hBm : Lm (lb.drop k) := hlb.drop _
  rw [show k + 3 - k = 3 from by omega] at hPl
  rw [show k + 2 - k = 2 from by omega] at hBl
  have HL := Lib.hid hlen
  clear hlen
  have e3 : val (((R.drop i).take (k + 3)).drop k) % 18446744073709551616 = val (((R.drop i).take (k + 3)).drop k) := by
    have := val_lt hPm
    simp only [List.length_drop, List.length_take] at this
    rw [show min (k + 3) (R.length - i) - k = 3 from by have := hrow.1; simp [cellsOf] at this; omega] at this
    exact Nat.mod_eq_of_lt (by omega)
  have e2 : val (lb.drop k) % 18446744073709551616 = val (lb.drop k) := by
    have := val_lt hBm
    rw [List.length_drop, HL.out, show k + 2 - k = 2 from by omega] at this
    exact Nat.mod_eq_of_lt (by omega)
  have hW1 : ∀ W, Below w.heap.size w W → Calls Try.prog 54 #[.slice (some ⟨G, i + k, none⟩) 3 (c0 - k)] W fun e W' => e = .returned (.int .u64 ((val (((R.drop i).take (k + 3)).drop k) : Nat) : Int)) ∧ Below w.heap.size w W' := fun W hW =>
    (word_any _ _ hPm W (hPl.below hW (Nat.le_refl _))).mono fun e W' hh => ⟨by rw [← e3]; exact hh.1, hW.trans (hh.2.mono hW.size)⟩
  have hW2 : ∀ W, Below w.heap.size w W → Calls Try.prog 54 #[.slice (some ⟨bb, bo + k, none⟩) 2 (capb - k)] W fun e W' => e = .returned (.int .u64 ((val (lb.drop k) : Nat) : Int)) ∧ Below w.heap.size w W' := fun W hW =>
    (word_any _ _ hBm W (hBl.below hW (Nat.le_refl _))).mono fun e W' hh => ⟨by rw [← e2]; exact hh.1, hW.trans (hh.2.mono hW.size)⟩
  have HW1 := Lib.hid hW1
  have HW2 := Lib.hid hW2
  have hb0 := Below.refl w.heap.size w
  have hp3b := val_lt hPm
  rw [show (((R.drop i).take (k + 3)).drop k).length = 3 from by have := hrow.1; simp [cellsOf] at this ⊢; omega] at hp3b
  generalize hp3 : val (((R.drop i).take (k + 3)).drop k) = p3 at *
  generalize hb2 : val (lb.drop k) = b2 at *
  have HP3 := Lib.hid hp3
  have HB2 := Lib.hid hb2
  clear hW1 hW2 e3 e2 hp3 hb2 hPl hBl hPm hBm hP
  have hs1 := fun W => slice_from W ⟨G, i, none⟩ (k + 3) c0 k (by omega) (by omega)
  have hs2 := fun W => slice_from W ⟨bb, bo, none⟩ (k + 2) capb k (by omega) (by omega)
  rw [add_eq] at hs1 hs2
  rw [show k + 3 - k = 3 from by omega] at hs1
  rw [show k + 2 - k = 2 from by omega] at hs2
  obtain ⟨z, hz⟩ : ∃ z, z = p3 / b2 := ⟨_, rfl⟩
  obtain ⟨g0, hg0⟩ : ∃ g0, g0 = min z 65535 := ⟨_, rfl⟩
  have hzb : z ≤ p3 := by rw [hz]; exact Nat.div_le_self _ _
  have q4 : IntKind.u64.wrap ((p3 : Int) / (b2 : Int)) = (z : Int) := by
    rw [IntKind.wrap_u64, hz]
    rw [show (p3 : Int) / (b2 : Int) = ((p3 / b2 : Nat) : Int) from rfl]
    rw [← hz]
    omega
  have q5 : (if 65535 < (z : Int) then (65535 : Int) else (z : Int)) = (g0 : Int) := by
    split <;> omega
  have hg1 : g0 ≤ 65535 := by omega
  have HZ := Lib.hid hz
  have HG := Lib.hid hg0
  clear hz hg0
  have q1 : IntKind.i64.wrap ((k : Int) + 2 - 2) = (k : Int) := by rw [show (k : Int) + 2 - 2 = (k : Int) from by omega]; exact IntWalk.i64_in _ (by omega)
  have q2 : IntKind.i64.wrap (k : Int) = (k : Int) := IntWalk.i64_in _ (by omega)
  go_enter Try.func71, Try.ntmps71
  go_wp2
  go_region_with (first | (go_at_call_of 54 (Value.slice (some ⟨G, i + k, none⟩) 3 (c0 - k)); refine (HW1.out _ (by first | assumption | exact Below.drew (by assumption))).mono ?_; rintro e W1 ⟨rfl, hbW1⟩) | (go_at_call_of 54 (Value.slice (some ⟨bb, bo + k, none⟩) 2 (capb - k)); refine (HW2.out _ (by first | assumption | exact Below.drew (by assumption))).mono ?_; rintro e W1 ⟨rfl, hbW1⟩))
  clear q1 q2 q4 q5
  go_wp2_with (go_at_call 77; refine (addTimes_any G N i (k + 3) c0 base R _ lb hR hlb _ (by omega) (by omega) hin hN hc0 hc1 _ (ownsRow_below hrow (by first | assumption | exact Below.drew (by assumption))) (h.below (by first | assumption | exact Below.drew (by assumption)) (Nat.le_refl _)) (by simpa [Value.ownBlock] using hsep)).mono ?_; rintro e W3 ⟨⟨Q, ci, hQ, hQm, rfl, c1, c2, hv, hrow3⟩, hg3⟩)
  have hlenR : R.length = N := by have := hrow.1; simpa [cellsOf] using this
  have hP0 : Lm ((R.drop i).take (k + 3)) := (hR.drop _).take _
  have hP0l : ((R.drop i).take (k + 3)).length = k + 3 := by simp; omega
  have hg1' : w.grownBy W3 (some G) := (World.grownBy.trans ⟨hbW1.os, hbW1.tape, hbW1.output, hbW1.size, fun j hj _ => hbW1.block j hj⟩ hg3)
  have hinit := take_init hP0 hP0l HL.out (by rw [HB2.out]; exact htop)
  rw [HP3.out, HB2.out, ← HZ.out, ← HG.out] at hinit
  rw [List.take_of_length_le (show lb.length ≤ k + 3 by rw [HL.out]; omega)] at hv
  have hv' : (val Q : Int) + ((65536 ^ (k + 3) : Nat) : Int) * ci = (val ((R.drop i).take (k + 3)) : Int) - (g0 : Int) * (val lb : Int) := by
    rw [hv, Int.neg_mul]; omega
  obtain ⟨c3, c4⟩ := take_carry hP0 hP0l hlb HL.out hQm hQ hg1 hv'
  have HR0 := Lib.hid hlenR
  have HP0l := Lib.hid hP0l
  have HST : Hid (TakeRel G N i k R lb base w (.int .u64 (g0 : Int)) (.int .i64 ci) W3) := ⟨Q, g0, ci, hQ, rfl, rfl, hQm, hg1, hinit, c3, c4, hv', hrow3, hg1'⟩
  clear hlenR hP0l hv hv' hinit hQ hrow3 hg1' hg3 hbW1
  go_loopw [6, 7] (fun g c wr => TakeRel G N i k R lb base w g c wr) (fun g _ _ => (intOf g).toNat)
  case atStart => exact HST.out
  case round =>
    obtain ⟨Q, gi, ci, hQ, rfl, rfl, hQm, hg1, hge, c3, c4, hv, hrow4, hg4⟩ := hrel
    have HQ := Lib.hid hQ
    have HV := Lib.hid hv
    have HGE := Lib.hid hge
    clear hQ hv hge
    have hRl := HR0.out
    have hLw : Lim wr (.slice (some ⟨bb, bo, none⟩) (k + 2) capb) lb := h.kept hg4 (fun r e => by cases e; simpa [Value.ownBlock] using hsep)
    by_cases hc : ci < 0
    · have hgt : min (val ((R.drop i).take (k + 3)) / val lb) 65535 + 1 ≤ gi := by
        have hv := HV.out
        have hq := val_lt hQm
        rw [HQ.out] at hq
        have hneg : (val ((R.drop i).take (k + 3)) : Int) < (gi : Int) * (val lb : Int) := by
          have : ((65536 ^ (k + 3) : Nat) : Int) * ci ≤ ((65536 ^ (k + 3) : Nat) : Int) * (-1) := Int.mul_le_mul_of_nonneg_left (by omega) (by omega)
          omega
        rw [← Int.natCast_mul] at hneg
        have hneg2 : val ((R.drop i).take (k + 3)) < gi * val lb := by omega
        have := Nat.div_lt_of_lt_mul (show val ((R.drop i).take (k + 3)) < val lb * gi by rw [Nat.mul_comm]; exact hneg2)
        omega
      have hgp : 1 ≤ gi := Nat.le_trans (Nat.le_add_left 1 _) hgt
      have hrl : (splice R i Q).length = N := by rw [splice_length (by rw [HQ.out]; omega)]; exact hRl
      have HGT := Lib.hid hgt
      have HRL := Lib.hid hrl
      clear hgt hRl hrl
      go_wp2_with (go_at_call 77; refine (addTimes_any G N i (k + 3) c0 base (splice R i Q) _ lb (splice_Lm hR hQm) hlb _ (by omega) (by omega) hin hN hc0 hc1 _ hrow4 hLw (by simpa [Value.ownBlock] using hsep)).mono ?_; rintro e W5 ⟨⟨Q', ci', hQ', hQm', rfl, c5, c6, hv', hrow5⟩, hg5⟩)
      rw [splice_splice (by rw [HQ.out, hQ']) (by rw [HQ.out, HR0.out]; exact hin)] at hrow5
      rw [splice_drop_take HQ.out (by rw [HR0.out]; exact hin), List.take_of_length_le (show lb.length ≤ k + 3 by rw [HL.out]; omega)] at hv'
      have hv2 : (val Q' : Int) + ((65536 ^ (k + 3) : Nat) : Int) * (ci + ci') = (val ((R.drop i).take (k + 3)) : Int) - ((gi - 1 : Nat) : Int) * (val lb : Int) := by
        have hv := HV.out
        rw [Int.mul_add, show ((gi - 1 : Nat) : Int) = (gi : Int) - 1 from by omega, Int.sub_mul]
        omega
      obtain ⟨c7, c8⟩ := take_carry hP0 HP0l.out hlb HL.out hQm' hQ' (by omega) hv2
      exact ⟨⟨Q', gi - 1, ci + ci', hQ', by go_num, rfl, hQm', by omega, Nat.le_sub_of_add_le HGT.out, c7, c8, hv2, hrow5, hg4.trans hg5⟩, by simp [intOf]; omega⟩
    · have hci : ci = 0 := by omega
      have hv := HV.out
      rw [hci, Int.mul_zero, Int.add_zero, ← Int.natCast_mul] at hv
      have hv3 : val Q = val ((R.drop i).take (k + 3)) - gi * val lb := by omega
      have hle : gi * val lb ≤ val ((R.drop i).take (k + 3)) := by omega
      have hV0 : 0 < val lb := by
        have e := val_take_drop lb k
        rw [HL.out, Nat.min_eq_left (by omega)] at e
        have : 0 < 65536 ^ k * val (lb.drop k) := Nat.mul_pos (Nat.pos_of_ne_zero (by simp)) (by rw [HB2.out]; exact htop)
        omega
      have hdiv : gi ≤ val ((R.drop i).take (k + 3)) / val lb := (Nat.le_div_iff_mul_le hV0).2 hle
      have heq : gi = min (val ((R.drop i).take (k + 3)) / val lb) 65535 := Nat.le_antisymm (Nat.le_min.2 ⟨hdiv, hg1⟩) HGE.out
      have HEQ := Lib.hid heq
      have HV3 := Lib.hid hv3
      clear hv hv3 hle hdiv heq hci hRl
      go_wp2
      go_ret
      rw [← HEQ.out]
      exact ⟨⟨Q, HQ.out, hQm, rfl, HV3.out, hrow4⟩, hg4⟩

end Go.Proofs.Ytodmbklednehbaa
