/-
'divide' where the first number is less, or the second one has at most three limbs.
-/
import Derived.Test.YtodmbklednehbaaTake
namespace Go.Proofs.Ytodmbklednehbaa
open Go.RowKit Wh

theorem dig_last_ne {n : Nat} (h : n ≠ 0) : (dig n)[(dig n).length - 1]?.getD 0 ≠ 0 := by
  have hne : dig n ≠ [] := fun e => h ((dig_nil_iff n).1 e)
  have hp : 0 < (dig n).length := List.length_pos_iff.2 hne
  rw [getD_lt_length (by omega), ← List.getLast_eq_getElem]
  exact dig_last n hne

theorem Fr.own {B : Nat} {W : World} {v : Value} (h : Fr B W v) : ∀ r, r < B → v.ownBlock ≠ some r := by
  intro r hr
  rcases h with rfl | ⟨g, n, cap, cur, T, rfl, h2, _⟩
  · simp [Value.ownBlock]
  · simp [Value.ownBlock]; omega

/-- Two results that are stored into their boxes. -/
theorem box2 {N : Nat} {T : TypeId} {w w2 : World} {v0 v1 vq vr : Value} {lq lr : List Nat} (bQ : Boxed w2 (N + 1) T v0) (bR : Boxed w2 (N + 1 + 1) T v1) (hq : LimF (N + 1 + 1 + 1) w2 vq lq) (hr : LimF (N + 1 + 1 + 1) w2 vr lr) (hB : Below N w w2) :
    ((w2.setCell ⟨N + 1, 0, none⟩ vq).setCell ⟨N + 1 + 1, 0, none⟩ vr).cell? ⟨N + 1, 0, none⟩ = some vq ∧ ((w2.setCell ⟨N + 1, 0, none⟩ vq).setCell ⟨N + 1 + 1, 0, none⟩ vr).cell? ⟨N + 1 + 1, 0, none⟩ = some vr ∧
      LimF N ((w2.setCell ⟨N + 1, 0, none⟩ vq).setCell ⟨N + 1 + 1, 0, none⟩ vr) vq lq ∧ LimF N ((w2.setCell ⟨N + 1, 0, none⟩ vq).setCell ⟨N + 1 + 1, 0, none⟩ vr) vr lr ∧ Below N w ((w2.setCell ⟨N + 1, 0, none⟩ vq).setCell ⟨N + 1 + 1, 0, none⟩ vr) := by
  have g1 := grownBy_setCell' w2 (N + 1) vq
  have g2 := grownBy_setCell' (w2.setCell ⟨N + 1, 0, none⟩ vq) (N + 1 + 1) vr
  refine ⟨((bQ.set vq).kept g2 (by simp)).cell, ((bR.kept g1 (by simp <;> omega)).set vr).cell, ?_, ?_, (hB.setCell (p := ⟨N + 1, 0, none⟩) (by simp) vq).setCell (p := ⟨N + 1 + 1, 0, none⟩) (by simp; omega) vr⟩
  · exact ((hq.kept g1 (fun r e => hq.2.own r (by cases e; omega))).kept g2 (fun r e => hq.2.own r (by cases e; omega))).mono (by omega)
  · exact ((hr.kept g1 (fun r e => hr.2.own r (by cases e; omega))).kept g2 (fun r e => hr.2.own r (by cases e; omega))).mono (by omega)

set_option maxRecDepth 100000 in
set_option maxHeartbeats 1000000 in
theorem divide_less (sa sb : Value) (m n : Nat) (hmn : m < n) (w : World) (h : Lim w sa (dig m)) (g : Lim w sb (dig n)) :
    Calls Try.prog 56 #[sa, sb] w fun e w' => (∃ vq vr, e = .returned (.tuple #[vq, vr]) ∧ LimF w.heap.size w' vq (dig (m / n)) ∧ LimF w.heap.size w' vr (dig (m % n))) ∧ Below w.heap.size w w' := by
  have hcmp : cmpL (dig m) (dig n) = -1 := by rw [cmp_dig]; simp [cmpN, hmn]
  have e1 : m / n = 0 := Nat.div_eq_of_lt hmn
  have e2 : m % n = m := Nat.mod_eq_of_lt hmn
  rw [e1, e2, dig_zero]
  obtain ⟨a, cap, rfl, _⟩ := id h
  obtain ⟨b, capb, rfl, _⟩ := id g
  have hw1 := fun W (hW : Below w.heap.size w W) => (compare_any _ _ _ _ (dig_Lm m) (dig_Lm n) W (h.below hW (Nat.le_refl _)) (g.below hW (Nat.le_refl _)))
  rw [hcmp] at hw1
  have HW1 := Lib.hid hw1
  have H := Lib.hid h
  clear hw1 hcmp e1 e2 h g
  have b1 : Below w.heap.size w (((w.alloc (.cells #[.slice b (dig n).length capb] 24)).alloc (.cells #[.slice none 0 0] 24)).alloc (.cells #[.slice none 0 0] 24)) :=
    (((Below.refl _ w).alloc (Nat.le_refl _) _).alloc (by simp) _).alloc (by simp; omega) _
  have bQ := (Boxed.new (w.alloc (.cells #[.slice b (dig n).length capb] 24)) 24 (.slice none 0 0)).alloc (.cells #[.slice none 0 0] 24)
  have bR := Boxed.new ((w.alloc (.cells #[.slice b (dig n).length capb] 24)).alloc (.cells #[.slice none 0 0] 24)) 24 (.slice none 0 0)
  rw [World.size_alloc] at bQ
  rw [World.size_alloc, World.size_alloc] at bR
  have HB := Lib.hid b1
  clear b1
  go_enter Try.func56, Try.ntmps56
  go_wp2_with (first | (go_at_call 59; refine (HW1.out _ HB.out).mono ?_; rintro e w1 ⟨rfl, hb1⟩; have bQ1 := Boxed.below bQ hb1; have bR1 := Boxed.below bR hb1; have hB1 := HB.out.trans (hb1.mono HB.out.size)) | (go_at_call 69; refine (copied_any _ _ _ (H.out.below hB1 (Nat.le_refl _))).mono ?_; rintro e w2 ⟨⟨v', rfl, hl', hown⟩, hb2⟩; obtain ⟨a', cap', rfl, _⟩ := id hl'; have bQ2 := Boxed.below bQ1 hb2; have bR2 := Boxed.below bR1 hb2; have cQ := bQ2.cell; have fQ := bQ2.frozen; have cR := bR2.cell; have fR := bR2.frozen))
  have hs1 : w.heap.size + 1 + 1 + 1 ≤ w1.heap.size := by have := hb1.size; simp at this; omega
  obtain ⟨x1, x2, x3, x4, x5⟩ := box2 bQ2 bR2 (LimF.nil _ _) ⟨hl', (Fr.of_owns hown).mono hs1⟩ (hB1.trans (hb2.mono (by omega)))
  exact bodyPost_ret (v := .tuple #[.slice none 0 0, .slice a' (dig m).length cap']) (by simp [results, Try.results56, go_sem, x1, x2]) rfl ⟨⟨_, _, rfl, x3, x4⟩, x5⟩

set_option maxRecDepth 100000 in
set_option maxHeartbeats 1000000 in
theorem divide_short (sa sb : Value) (m n : Nat) (hmn : n ≤ m) (hn0 : n ≠ 0) (hn3 : (dig n).length ≤ 3) (hm : (dig m).length ≤ 1048000) (w : World) (h : Lim w sa (dig m)) (g : Lim w sb (dig n)) :
    Calls Try.prog 56 #[sa, sb] w fun e w' => (∃ vq vr, e = .returned (.tuple #[vq, vr]) ∧ LimF w.heap.size w' vq (dig (m / n)) ∧ LimF w.heap.size w' vr (dig (m % n))) ∧ Below w.heap.size w w' := by
  have hcmp : 0 ≤ cmpL (dig m) (dig n) ∧ cmpL (dig m) (dig n) ≤ 1 := by
    rw [cmp_dig]; unfold cmpN
    rw [if_neg (by omega)]
    split <;> omega
  obtain ⟨cm, hcm⟩ : ∃ cm, cm = cmpL (dig m) (dig n) := ⟨_, rfl⟩
  rw [← hcm] at hcmp
  obtain ⟨cm1, cm2⟩ := hcmp
  have hnb : n < 281474976710656 := by
    have := (length_dig_le n 3).1 hn3
    simpa using this
  obtain ⟨a, cap, rfl, _⟩ := id h
  obtain ⟨b, capb, rfl, _⟩ := id g
  have hw1 := fun W (hW : Below w.heap.size w W) => (compare_any _ _ _ _ (dig_Lm m) (dig_Lm n) W (h.below hW (Nat.le_refl _)) (g.below hW (Nat.le_refl _)))
  rw [← hcm] at hw1
  have hw2 := fun W (hW : Below w.heap.size w W) => (word_any _ _ (dig_Lm n) W (g.below hW (Nat.le_refl _)))
  rw [val_dig, Nat.mod_eq_of_lt (show n < 18446744073709551616 by omega)] at hw2
  have hw3 := fun W (hW : Below w.heap.size w W) => (divideShort_any _ _ (dig_Lm m) hm n (Nat.pos_of_ne_zero hn0) hnb W (h.below hW (Nat.le_refl _)))
  rw [val_dig] at hw3
  have hmod : m % n < 18446744073709551616 := by have := Nat.mod_lt m (Nat.pos_of_ne_zero hn0); omega
  have HW1 := Lib.hid hw1
  have HW2 := Lib.hid hw2
  have HW3 := Lib.hid hw3
  clear hw1 hw2 hw3 hcm h g
  have b1 : Below w.heap.size w (((w.alloc (.cells #[.slice b (dig n).length capb] 24)).alloc (.cells #[.slice none 0 0] 24)).alloc (.cells #[.slice none 0 0] 24)) :=
    (((Below.refl _ w).alloc (Nat.le_refl _) _).alloc (by simp) _).alloc (by simp; omega) _
  have bB := ((Boxed.new w 24 (.slice b (dig n).length capb)).alloc (.cells #[.slice none 0 0] 24)).alloc (.cells #[.slice none 0 0] 24)
  have bQ := (Boxed.new (w.alloc (.cells #[.slice b (dig n).length capb] 24)) 24 (.slice none 0 0)).alloc (.cells #[.slice none 0 0] 24)
  have bR := Boxed.new ((w.alloc (.cells #[.slice b (dig n).length capb] 24)).alloc (.cells #[.slice none 0 0] 24)) 24 (.slice none 0 0)
  rw [World.size_alloc] at bQ
  rw [World.size_alloc, World.size_alloc] at bR
  have HB := Lib.hid b1
  clear b1
  obtain ⟨r, hr⟩ : ∃ r, r = m % n := ⟨_, rfl⟩
  have HR := Lib.hid hr
  rw [← hr] at hmod HW3 ⊢
  clear hr
  go_enter Try.func56, Try.ntmps56
  go_wp2_with (first
    | (go_at_call 59; refine (HW1.out _ HB.out).mono ?_; rintro e w1 ⟨rfl, hb1⟩; have bB1 := Boxed.below bB hb1; have cB1 := bB1.cell; have bQ1 := Boxed.below bQ hb1; have bR1 := Boxed.below bR hb1; have hB1 := HB.out.trans (hb1.mono HB.out.size))
    | (go_at_call 54; refine (HW2.out _ hB1).mono ?_; rintro e w2 ⟨rfl, hb2⟩; have bQ2 := Boxed.below bQ1 hb2; have bR2 := Boxed.below bR1 hb2; have hB2 := hB1.trans (hb2.mono hB1.size))
    | (go_at_call 67; refine (HW3.out _ hB2).mono ?_; rintro e w3 ⟨⟨vq, rfl, hlq⟩, hb3⟩; obtain ⟨aq, capq, rfl, _⟩ := id hlq.1; have bQ3 := Boxed.below bQ2 hb3; have bR3 := Boxed.below bR2 hb3; have hB3 := hB2.trans (hb3.mono hB2.size))
    | (go_at_call 58; refine (limbsOf_any _ hmod _).mono ?_; rintro e w4 ⟨⟨vr, rfl, hlr⟩, hb4⟩; obtain ⟨ar, capr, rfl, _⟩ := id hlr.1; have bQ4 := Boxed.below bQ3 hb4; have bR4 := Boxed.below bR3 hb4; have hB4 := hB3.trans (hb4.mono hB3.size); have cQ := bQ4.cell; have fQ := bQ4.frozen; have cR := bR4.cell; have fR := bR4.frozen))
  have hs1 : w.heap.size + 1 + 1 + 1 ≤ w1.heap.size := by have := hb1.size; simp at this; omega
  have hs2 := hb2.size
  have hs3 := hb3.size
  obtain ⟨x1, x2, x3, x4, x5⟩ := box2 bQ4 bR4 ((hlq.below hb4).mono (by omega)) (hlr.mono (by omega)) hB4
  exact bodyPost_ret (v := .tuple #[.slice aq (dig (m / n)).length capq, .slice ar (dig r).length capr]) (by simp [results, Try.results56, go_sem, x1, x2]) rfl ⟨⟨_, _, rfl, x3, x4⟩, x5⟩

end Go.Proofs.Ytodmbklednehbaa
