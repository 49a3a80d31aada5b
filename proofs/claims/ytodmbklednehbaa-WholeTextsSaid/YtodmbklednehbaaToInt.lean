/-
'Int'.
-/
import Derived.Test.YtodmbklednehbaaCmp
import Derived.Outline
namespace Go.Proofs.Ytodmbklednehbaa
open Go.RowKit Wh

set_option maxRecDepth 100000 in
set_option maxHeartbeats 1000000 in
theorem Int_bad (b : Bool) (s : Value) (l : List Nat) (w : World) (h : Lim w s l) (hv : vld b l = false) :
    Calls Try.prog 26 #[.agg #[.bool b, s]] w fun e w' => e = .returned (.tuple #[.int .i64 0, .int .i64 2]) ∧ Below w.heap.size w w' := by
  have hw1 := fun B W (h0 : W.cell? ⟨B, 0, none⟩ = some (.bool b)) (h1 : W.cell? ⟨B, 1, none⟩ = some s) (hW : Below w.heap.size w W) => allValid_one B b s l W h0 h1 (h.below hW (Nat.le_refl _))
  rw [hv] at hw1
  have HW1 := Lib.hid hw1
  obtain ⟨aa, ca, rfl⟩ := lim_slice h
  clear hw1 h hv
  obtain ⟨ja, hja⟩ : ∃ n, n = l.length := ⟨_, rfl⟩
  rw [← hja] at HW1 ⊢
  clear hja
  have hz := ((Below.refl w.heap.size w).alloc (Nat.le_refl _) (.cells #[.bool b, .slice aa ja ca] 26)).alloc (by simp) (.cells #[.bool b, .slice aa ja ca] 26)
  have hr := (Bx.new (w.alloc (.cells #[.bool b, .slice aa ja ca] 26)) (.bool b) (.slice aa ja ca)).cells
  simp only [World.size_alloc] at hr
  have HR := Lib.hid hr
  clear hr
  go_enter Try.func26, Try.ntmps26
  go_wp2_with (go_at_call 48; refine (HW1.out _ _ HR.out.1 HR.out.2 hz).mono ?_; rintro e w2 ⟨rfl, hb2⟩; have hB2 := hz.trans (hb2.mono hz.size))
  go_ret2
  exact ⟨rfl, hB2⟩

set_option maxRecDepth 100000 in
set_option maxHeartbeats 1000000 in
theorem Int_any (v : Value) (z : Int) (h1 : -9223372036854775808 ≤ z) (h2 : z ≤ 9223372036854775807) (w : World) (h' : Num w v z) :
    Calls Try.prog 26 #[v] w fun e w' => e = .returned (.tuple #[.int .i64 z, .int .i64 0]) ∧ Below w.heap.size w w' := by
  obtain ⟨s, rfl, h⟩ := h'
  have hl4 : (dig z.natAbs).length ≤ 4 := (length_dig_le _ 4).2 (by show z.natAbs < 18446744073709551616; omega)
  have hw1 := fun B W (h0 : W.cell? ⟨B, 0, none⟩ = some (.bool (decide (z < 0)))) (h1 : W.cell? ⟨B, 1, none⟩ = some s) (hW : Below w.heap.size w W) => allValid_one B _ s _ W h0 h1 (h.below hW (Nat.le_refl _))
  rw [vld_num z (by omega)] at hw1
  have HW1 := Lib.hid hw1
  have hw2 := fun W (hW : Below w.heap.size w W) => word_any s (dig z.natAbs) (dig_Lm _) W (h.below hW (Nat.le_refl _))
  rw [val_dig, Nat.mod_eq_of_lt (show z.natAbs < 18446744073709551616 by omega)] at hw2
  have HW2 := Lib.hid hw2
  obtain ⟨aa, ca, rfl⟩ := lim_slice h
  clear hw1 hw2 h
  obtain ⟨ja, hja⟩ : ∃ n, n = (dig z.natAbs).length := ⟨_, rfl⟩
  rw [← hja] at HW1 HW2 hl4 ⊢
  clear hja
  have hl4' : ¬ (4 < (ja : Int)) := by omega
  clear hl4
  obtain ⟨na, hna⟩ : ∃ n, n = decide (z < 0) := ⟨_, rfl⟩
  rw [← hna] at HW1 ⊢
  have hz := ((Below.refl w.heap.size w).alloc (Nat.le_refl _) (.cells #[.bool na, .slice aa ja ca] 26)).alloc (by simp) (.cells #[.bool na, .slice aa ja ca] 26)
  have x2 := (Bx.new w (.bool na) (.slice aa ja ca)).alloc (.cells #[.bool na, .slice aa ja ca] 26)
  have hr := (Bx.new (w.alloc (.cells #[.bool na, .slice aa ja ca] 26)) (.bool na) (.slice aa ja ca)).cells
  simp only [World.size_alloc] at hr
  have HR := Lib.hid hr
  clear hr
  obtain ⟨m, hm⟩ : ∃ m, m = z.natAbs := ⟨_, rfl⟩
  rw [← hm] at HW2
  cases na with
  | true =>
    have hneg := of_decide_eq_true hna.symm
    have hm1 : (m : Int) ≤ 9223372036854775808 := by omega
    have e1 : wrap64 (IntKind.u64.wrap (-(m : Int))) = z := by rw [IntKind.wrap_u64]; unfold wrap64; omega
    have E1 := Lib.hid e1
    clear e1 hneg hna hm h1 h2
    go_enter Try.func26, Try.ntmps26
    go_wp2_with (first
      | (go_at_call 48; refine (HW1.out _ _ HR.out.1 HR.out.2 hz).mono ?_; rintro e w2 ⟨rfl, hb2⟩; have hB2 := hz.trans (hb2.mono hz.size); have z2 := x2.on hb2; obtain ⟨p2, p2'⟩ := z2.cells)
      | (go_at_call 54; refine (HW2.out _ hB2).mono ?_; rintro e w3 ⟨rfl, hb3⟩; have hB3 := hB2.trans (hb3.mono hB2.size); have z3 := z2.on hb3; obtain ⟨q2, q2'⟩ := z3.cells))
    go_ret2
    exact ⟨by rw [← E1.out]; rfl, hB3⟩
  | false =>
    have hneg := of_decide_eq_false hna.symm
    have hm1 : (m : Int) ≤ 9223372036854775807 := by omega
    have e1 : (m : Int) = z := by omega
    have E1 := Lib.hid e1
    clear e1 hneg hna hm h1 h2
    go_enter Try.func26, Try.ntmps26
    go_wp2_with (first
      | (go_at_call 48; refine (HW1.out _ _ HR.out.1 HR.out.2 hz).mono ?_; rintro e w2 ⟨rfl, hb2⟩; have hB2 := hz.trans (hb2.mono hz.size); have z2 := x2.on hb2; obtain ⟨p2, p2'⟩ := z2.cells)
      | (go_at_call 54; refine (HW2.out _ hB2).mono ?_; rintro e w3 ⟨rfl, hb3⟩; have hB3 := hB2.trans (hb3.mono hB2.size); have z3 := z2.on hb3; obtain ⟨q2, q2'⟩ := z3.cells))
    go_ret2
    exact ⟨by rw [← E1.out]; rfl, hB3⟩

end Go.Proofs.Ytodmbklednehbaa
