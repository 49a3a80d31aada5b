/-
'difference', 'product'.
-/
import Derived.Test.YtodmbklednehbaaOps
namespace Go.Proofs.Ytodmbklednehbaa
open Go.RowKit Wh

theorem neg_num {W : World} {nb : Bool} {s : Value} {b : Int} (h : Num W (.agg #[.bool nb, s]) b) : nb = decide (b < 0) ∧ Lim W s (dig b.natAbs) := by
  obtain ⟨s', e, hl⟩ := h
  simp at e
  obtain ⟨e1, rfl⟩ := e
  exact ⟨e1, hl⟩

theorem neg_sign (b : Int) : (!decide (b < 0) && decide (dig b.natAbs ≠ [])) = decide (-b < 0) := by
  rw [Bool.eq_iff_iff]
  simp [dig_nil_iff]
  omega

theorem mul_sign (a b : Int) : ((decide (a < 0) != decide (b < 0)) && decide (dig (a * b).natAbs ≠ [])) = decide (a * b < 0) := by
  rw [Bool.eq_iff_iff]
  simp only [Bool.and_eq_true, bne_iff_ne, ne_eq, decide_eq_true_eq, decide_eq_decide, dig_nil_iff, Int.natAbs_eq_zero, Int.mul_eq_zero, not_or]
  constructor
  · rintro ⟨h1, h2, h3⟩
    by_cases ha : a < 0
    · have hb : 0 < b := by omega
      exact Int.mul_neg_of_neg_of_pos ha hb
    · have hb : b < 0 := by omega
      exact Int.mul_neg_of_pos_of_neg (by omega) hb
  · intro h
    have h0 : a ≠ 0 := fun e => by simp [e] at h
    have h1 : b ≠ 0 := fun e => by simp [e] at h
    refine ⟨fun e => ?_, h0, h1⟩
    by_cases ha : a < 0
    · have := Int.mul_pos_of_neg_of_neg ha (e.1 ha); omega
    · have hb : ¬ b < 0 := fun hb => ha (e.2 hb)
      have := Int.mul_nonneg (show 0 ≤ a by omega) (show 0 ≤ b by omega); omega

theorem lim_slice {W : World} {v : Value} {l : List Nat} (h : Lim W v l) : ∃ a cap, v = .slice a l.length cap := by
  obtain ⟨a, cap, e, -⟩ := h; exact ⟨a, cap, e⟩

set_option maxRecDepth 100000 in
set_option maxHeartbeats 2000000 in
theorem difference_any (va vb : Value) (a b : Int) (ha : (dig a.natAbs).length ≤ 16384) (hb : (dig b.natAbs).length ≤ 16384) (w : World) (h : Num w va a) (g : Num w vb b) :
    Calls Try.prog 40 #[va, vb] w fun e w' => (∃ v, e = .returned v ∧ NumF w.heap.size w' v (a - b)) ∧ Below w.heap.size w w' := by
  obtain ⟨sa, rfl, la⟩ := h
  obtain ⟨sb, rfl, lb⟩ := g
  have hw1 := fun W (hW : Below w.heap.size w W) => number_any (!decide (b < 0)) sb (dig b.natAbs) W (lb.below hW (Nat.le_refl _))
  rw [neg_sign] at hw1
  have hw2 := fun W (hW : Below w.heap.size w W) => sum_any (.agg #[.bool (decide (a < 0)), sa]) (.agg #[.bool (decide (-b < 0)), sb]) a (-b) ha (by rwa [Int.natAbs_neg]) W ⟨sa, rfl, la.below hW (Nat.le_refl _)⟩ ⟨sb, rfl, by rw [Int.natAbs_neg]; exact lb.below hW (Nat.le_refl _)⟩
  rw [← Int.sub_eq_add_neg] at hw2
  have HW1 := Lib.hid hw1
  have HW2 := Lib.hid hw2
  obtain ⟨aa, ca, rfl⟩ := lim_slice la
  obtain ⟨ab, cb, rfl⟩ := lim_slice lb
  clear hw1 hw2 la lb ha hb
  obtain ⟨na, hna⟩ : ∃ n, n = decide (a < 0) := ⟨_, rfl⟩
  obtain ⟨nb, hnb⟩ : ∃ n, n = decide (b < 0) := ⟨_, rfl⟩
  obtain ⟨nc, hnc⟩ : ∃ n, n = decide (-b < 0) := ⟨_, rfl⟩
  obtain ⟨z, hzz⟩ : ∃ z, z = a - b := ⟨_, rfl⟩
  obtain ⟨ja, hja⟩ : ∃ n, n = (dig a.natAbs).length := ⟨_, rfl⟩
  obtain ⟨jb, hjb⟩ : ∃ n, n = (dig b.natAbs).length := ⟨_, rfl⟩
  rw [← hnb, ← hnc, ← hjb] at HW1
  rw [← hna, ← hnc, ← hzz, ← hja, ← hjb] at HW2
  rw [← hna, ← hnb, ← hzz, ← hja, ← hjb]
  clear hna hnb hnc hzz hja hjb
  have hz := (((Below.refl w.heap.size w).alloc (Nat.le_refl _) (.cells #[.bool na, .slice aa ja ca] 26)).alloc (by simp) (.cells #[.bool nb, .slice ab jb cb] 26)).alloc (by simp <;> omega) (.cells #[.bool false, .slice none 0 0] 26)
  have x2 := ((Bx.new w (.bool na) (.slice aa ja ca)).alloc (.cells #[.bool nb, .slice ab jb cb] 26)).alloc (.cells #[.bool false, .slice none 0 0] 26)
  have x3 := (Bx.new (w.alloc (.cells #[.bool na, .slice aa ja ca] 26)) (.bool nb) (.slice ab jb cb)).alloc (.cells #[.bool false, .slice none 0 0] 26)
  have x4 := Bx.new ((w.alloc (.cells #[.bool na, .slice aa ja ca] 26)).alloc (.cells #[.bool nb, .slice ab jb cb] 26)) (.bool false) (.slice none 0 0)
  simp only [World.size_alloc] at x3 x4
  have n2 : w.heap.size + 1 + 1 ≠ w.heap.size := by omega
  have n3 : w.heap.size + 1 + 1 ≠ w.heap.size + 1 := by omega
  go_enter Try.func40, Try.ntmps40
  go_wp2_with fail
  obtain ⟨W0, hW0⟩ : ∃ W0, W0 = (((w.alloc (.cells #[.bool na, .slice aa ja ca] 26)).alloc (.cells #[.bool nb, .slice ab jb cb] 26)).alloc (.cells #[.bool false, .slice none 0 0] 26)) := ⟨_, rfl⟩
  have hs0 : w.heap.size + 3 ≤ W0.heap.size := by rw [hW0]; simp
  rw [← hW0] at hz x2 x3 x4 ⊢
  clear hW0
  obtain ⟨p2, p2'⟩ := x2.cells
  obtain ⟨p3, p3'⟩ := x3.cells
  go_region_held3 (fun w' => w'.cell? ⟨w.heap.size, 0, none⟩ = some (.bool na) ∧ w'.cell? ⟨w.heap.size, 1, none⟩ = some (.slice aa ja ca) ∧ w'.cell? ⟨w.heap.size + 1, 0, none⟩ = some (.bool nb) ∧ w'.cell? ⟨w.heap.size + 1, 1, none⟩ = some (.slice ab jb cb))
    (first | go_keep | exact ⟨cell_store r2 n2, cell_store r2' n2, cell_store r3 n3, cell_store r3' n3⟩)
    (first
    | (go_at_call 52; refine (HW1.out _ hz.drew).mono ?_; rintro e w2 ⟨rfl, hb2⟩; have hs2 := Nat.le_trans hs0 hb2.size; have hB2 := hz.drew.trans (hb2.mono hz.size); have z2 := x2.ond hb2; obtain ⟨q2, q2'⟩ := z2.cells; have z3 := x3.ond hb2; obtain ⟨q3, q3'⟩ := z3.cells; have z4 := x4.ond hb2)
    | (go_at_call 39; refine (HW2.out _ hB2).mono ?_; rintro e w3 ⟨⟨v, rfl, ⟨s, rfl, hl⟩⟩, hb3⟩; obtain ⟨a3, c3, rfl⟩ := lf_slice hl; have hB3 := hB2.trans (hb3.mono hB2.size); have u2 := z2.on hb3; obtain ⟨r2, r2'⟩ := u2.cells; have u3 := z3.on hb3; obtain ⟨r3, r3'⟩ := u3.cells; have v4 := z4.on hb3; obtain ⟨p4, p4'⟩ := v4.cells; obtain ⟨f4, f4'⟩ := v4.free))
  go_wp2
  have hl3 := (hl.put (B' := w.heap.size + 1 + 1) (Nat.lt_of_lt_of_le (by omega) hs2) (.bool (decide (z < 0))) (.slice a3 (dig z.natAbs).length c3)).mono hB2.size
  obtain ⟨k4, k4'⟩ := (v4.put (.bool (decide (z < 0))) (.slice a3 (dig z.natAbs).length c3)).cells
  exact bodyPost_ret (v := .agg #[.bool (decide (z < 0)), .slice a3 (dig z.natAbs).length c3]) (by simp [results, Try.results40, go_sem, k4, k4']) rfl ⟨⟨_, rfl, _, rfl, hl3⟩, Below.put hB3 (by omega) _ _⟩

set_option maxRecDepth 100000 in
set_option maxHeartbeats 2000000 in
theorem product_any (va vb : Value) (a b : Int) (ha : (dig a.natAbs).length ≤ 16384) (hb : (dig b.natAbs).length ≤ 16384) (w : World) (h : Num w va a) (g : Num w vb b) :
    Calls Try.prog 41 #[va, vb] w fun e w' => (∃ v, e = .returned v ∧ NumF w.heap.size w' v (a * b)) ∧ Below w.heap.size w w' := by
  obtain ⟨sa, rfl, la⟩ := h
  obtain ⟨sb, rfl, lb⟩ := g
  have hw1 := fun W (hW : Below w.heap.size w W) => multiply_any sa sb (dig a.natAbs) (dig b.natAbs) (dig_Lm _) (dig_Lm _) ha hb W (la.below hW (Nat.le_refl _)) (lb.below hW (Nat.le_refl _))
  rw [val_dig, val_dig, ← Int.natAbs_mul] at hw1
  have hw2 := fun W s (hl : Lim W s (dig (a * b).natAbs)) => number_any (decide (a < 0) != decide (b < 0)) s (dig (a * b).natAbs) W hl
  rw [mul_sign] at hw2
  have HW1 := Lib.hid hw1
  have HW2 := Lib.hid hw2
  obtain ⟨aa, ca, rfl⟩ := lim_slice la
  obtain ⟨ab, cb, rfl⟩ := lim_slice lb
  clear hw1 hw2 la lb ha hb
  obtain ⟨na, hna⟩ : ∃ n, n = decide (a < 0) := ⟨_, rfl⟩
  obtain ⟨nb, hnb⟩ : ∃ n, n = decide (b < 0) := ⟨_, rfl⟩
  obtain ⟨z, hzz⟩ : ∃ z, z = a * b := ⟨_, rfl⟩
  obtain ⟨ja, hja⟩ : ∃ n, n = (dig a.natAbs).length := ⟨_, rfl⟩
  obtain ⟨jb, hjb⟩ : ∃ n, n = (dig b.natAbs).length := ⟨_, rfl⟩
  rw [← hzz, ← hja, ← hjb] at HW1
  rw [← hna, ← hnb, ← hzz] at HW2
  rw [← hna, ← hnb, ← hzz, ← hja, ← hjb]
  clear hna hnb hzz hja hjb
  have hz := (((Below.refl w.heap.size w).alloc (Nat.le_refl _) (.cells #[.bool na, .slice aa ja ca] 26)).alloc (by simp) (.cells #[.bool nb, .slice ab jb cb] 26)).alloc (by simp <;> omega) (.cells #[.bool false, .slice none 0 0] 26)
  have x2 := ((Bx.new w (.bool na) (.slice aa ja ca)).alloc (.cells #[.bool nb, .slice ab jb cb] 26)).alloc (.cells #[.bool false, .slice none 0 0] 26)
  have x3 := (Bx.new (w.alloc (.cells #[.bool na, .slice aa ja ca] 26)) (.bool nb) (.slice ab jb cb)).alloc (.cells #[.bool false, .slice none 0 0] 26)
  have x4 := Bx.new ((w.alloc (.cells #[.bool na, .slice aa ja ca] 26)).alloc (.cells #[.bool nb, .slice ab jb cb] 26)) (.bool false) (.slice none 0 0)
  simp only [World.size_alloc] at x3 x4
  have n2 : w.heap.size + 1 + 1 ≠ w.heap.size := by omega
  have n3 : w.heap.size + 1 + 1 ≠ w.heap.size + 1 := by omega
  go_enter Try.func41, Try.ntmps41
  go_wp2_with fail
  obtain ⟨W0, hW0⟩ : ∃ W0, W0 = (((w.alloc (.cells #[.bool na, .slice aa ja ca] 26)).alloc (.cells #[.bool nb, .slice ab jb cb] 26)).alloc (.cells #[.bool false, .slice none 0 0] 26)) := ⟨_, rfl⟩
  have hs0 : w.heap.size + 3 ≤ W0.heap.size := by rw [hW0]; simp
  rw [← hW0] at hz x2 x3 x4 ⊢
  clear hW0
  obtain ⟨p2, p2'⟩ := x2.cells
  obtain ⟨p3, p3'⟩ := x3.cells
  go_region_held3 (fun w' => w'.cell? ⟨w.heap.size, 0, none⟩ = some (.bool na) ∧ w'.cell? ⟨w.heap.size, 1, none⟩ = some (.slice aa ja ca) ∧ w'.cell? ⟨w.heap.size + 1, 0, none⟩ = some (.bool nb) ∧ w'.cell? ⟨w.heap.size + 1, 1, none⟩ = some (.slice ab jb cb))
    (first | go_keep | exact ⟨cell_store r2 n2, cell_store r2' n2, cell_store r3 n3, cell_store r3' n3⟩)
    (first
    | (go_at_call 61; refine (HW1.out _ hz.drew).mono ?_; rintro e w2 ⟨⟨s, rfl, hl⟩, hb2⟩; obtain ⟨a3, c3, rfl⟩ := lf_slice hl; have hs2 := Nat.le_trans hs0 hb2.size; have hB2 := hz.drew.trans (hb2.mono hz.size); have z2 := x2.ond hb2; obtain ⟨q2, q2'⟩ := z2.cells; have z3 := x3.ond hb2; obtain ⟨q3, q3'⟩ := z3.cells; have z4 := x4.ond hb2)
    | (go_at_call 52; refine (HW2.out _ _ hl.1).mono ?_; rintro e w3 ⟨rfl, hb3⟩; have hB3 := hB2.trans (hb3.mono hB2.size); have u2 := z2.on hb3; obtain ⟨r2, r2'⟩ := u2.cells; have u3 := z3.on hb3; obtain ⟨r3, r3'⟩ := u3.cells; have v4 := z4.on hb3; obtain ⟨p4, p4'⟩ := v4.cells; obtain ⟨f4, f4'⟩ := v4.free))
  go_wp2
  have hl3 := ((hl.below hb3).put (B' := w.heap.size + 1 + 1) (Nat.lt_of_lt_of_le (by omega) hs0) (.bool (decide (z < 0))) (.slice a3 (dig z.natAbs).length c3)).mono hz.size
  obtain ⟨k4, k4'⟩ := (v4.put (.bool (decide (z < 0))) (.slice a3 (dig z.natAbs).length c3)).cells
  exact bodyPost_ret (v := .agg #[.bool (decide (z < 0)), .slice a3 (dig z.natAbs).length c3]) (by simp [results, Try.results41, go_sem, k4, k4']) rfl ⟨⟨_, rfl, _, rfl, hl3⟩, Below.put hB3 (by omega) _ _⟩

end Go.Proofs.Ytodmbklednehbaa
