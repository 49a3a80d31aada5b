/-
'FromInt', 'Int', 'Cmp'.
-/
import Derived.Test.YtodmbklednehbaaExp
import Derived.Outline
namespace Go.Proofs.Ytodmbklednehbaa
open Go.RowKit Wh

theorem num_sign (n : Int) : (decide (n < 0) && decide (dig n.natAbs ≠ [])) = decide (n < 0) := by
  rw [Bool.eq_iff_iff]
  simp [dig_nil_iff]
  omega

set_option maxRecDepth 100000 in
set_option maxHeartbeats 1000000 in
theorem FromInt_any (n : Int) (h1 : -9223372036854775808 ≤ n) (h2 : n ≤ 9223372036854775807) (w : World) :
    Calls Try.prog 53 #[.int .i64 n] w fun e w' => (∃ v, e = .returned v ∧ NumF w.heap.size w' v n) ∧ Below w.heap.size w w' := by
  have hw1 := fun W => limbsOf_any n.natAbs (by omega) W
  have hw2 := fun W s (hl : Lim W s (dig n.natAbs)) => number_any (decide (n < 0)) s _ W hl
  rw [num_sign] at hw2
  have HW1 := Lib.hid hw1
  have HW2 := Lib.hid hw2
  clear hw1 hw2
  have hz := (Below.refl w.heap.size w).alloc (Nat.le_refl _) (.cells #[.bool false, .slice none 0 0] 26)
  have x4 := Bx.new w (.bool false) (.slice none 0 0)
  have fin : ∀ {w2 w3 : World} {a3 c3}, LimF (w.alloc (.cells #[.bool false, .slice none 0 0] 26)).heap.size w2 (.slice a3 (dig n.natAbs).length c3) (dig n.natAbs) → Below w2.heap.size w2 w3 →
      NumF w.heap.size ((w3.setCell ⟨w.heap.size, 0, none⟩ (.bool (decide (n < 0)))).setCell ⟨w.heap.size, 1, none⟩ (.slice a3 (dig n.natAbs).length c3)) (.agg #[.bool (decide (n < 0)), .slice a3 (dig n.natAbs).length c3]) n := fun hl hb =>
    ⟨_, rfl, ((hl.below hb).put (B' := w.heap.size) (by simp) (.bool (decide (n < 0))) _).mono hz.size⟩
  have FIN := @fin
  clear fin
  rcases Int.lt_or_le n 0 with h0 | h0
  · have e1 : decide (n < 0) = true := decide_eq_true h0
    have e2 : IntKind.u64.wrap (-IntKind.u64.wrap n) = ((n.natAbs : Nat) : Int) := by rw [IntKind.wrap_u64, IntKind.wrap_u64]; omega
    rw [← e2] at HW1
    rw [e1] at HW2 FIN
    clear e1 e2
    go_enter Try.func53, Try.ntmps53
    go_wp2_with (first
      | (go_at_call 58; refine (HW1.out _).mono ?_; rintro e w2 ⟨⟨s, rfl, hl⟩, hb2⟩; obtain ⟨a3, c3, rfl⟩ := lf_slice hl; have hB2 := hz.trans (hb2.mono hz.size); have z4 := x4.on hb2)
      | (go_at_call 52; refine (HW2.out _ _ hl.1).mono ?_; rintro e w3 ⟨rfl, hb3⟩; have hB3 := hB2.trans (hb3.mono hB2.size); have v4 := z4.on hb3; obtain ⟨p4, p4'⟩ := v4.cells; obtain ⟨f4, f4'⟩ := v4.free))
    obtain ⟨k4, k4'⟩ := (v4.put (.bool true) (.slice a3 (dig n.natAbs).length c3)).cells
    exact bodyPost_ret (v := .agg #[.bool true, .slice a3 (dig n.natAbs).length c3]) (by simp [results, Try.results53, go_sem, k4, k4']) rfl ⟨⟨_, rfl, FIN hl hb3⟩, Below.put hB3 (Nat.le_refl _) _ _⟩
  · have e2 : n = ((n.natAbs : Nat) : Int) := by omega
    have HW1' : Hid (∀ W : World, Calls Try.prog 58 #[.int .u64 n] W fun e w' => (∃ v', e = .returned v' ∧ LimF W.heap.size w' v' (dig n.natAbs)) ∧ Below W.heap.size W w') := by
      rw [← e2] at HW1; exact HW1
    clear e2 HW1
    go_enter Try.func53, Try.ntmps53
    go_wp2_with (first
      | (go_at_call 58; refine (HW1'.out _).mono ?_; rintro e w2 ⟨⟨s, rfl, hl⟩, hb2⟩; obtain ⟨a3, c3, rfl⟩ := lf_slice hl; have hB2 := hz.trans (hb2.mono hz.size); have z4 := x4.on hb2)
      | (go_at_call 52; refine (HW2.out _ _ hl.1).mono ?_; rintro e w3 ⟨rfl, hb3⟩; have hB3 := hB2.trans (hb3.mono hB2.size); have v4 := z4.on hb3; obtain ⟨p4, p4'⟩ := v4.cells; obtain ⟨f4, f4'⟩ := v4.free))
    obtain ⟨k4, k4'⟩ := (v4.put (.bool (decide (n < 0))) (.slice a3 (dig n.natAbs).length c3)).cells
    exact bodyPost_ret (v := .agg #[.bool (decide (n < 0)), .slice a3 (dig n.natAbs).length c3]) (by simp [results, Try.results53, go_sem, k4, k4']) rfl ⟨⟨_, rfl, FIN hl hb3⟩, Below.put hB3 (Nat.le_refl _) _ _⟩

end Go.Proofs.Ytodmbklednehbaa
