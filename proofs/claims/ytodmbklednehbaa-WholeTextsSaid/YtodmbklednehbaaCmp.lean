/-
'Cmp', 'Int'.
-/
import Derived.Test.YtodmbklednehbaaInt
import Derived.Outline
namespace Go.Proofs.Ytodmbklednehbaa
open Go.RowKit Wh

/-- The order of two numbers, as Go's functions tell it. -/
def cmpI (a b : Int) : Int := if a < b then -1 else if b < a then 1 else 0

set_option maxRecDepth 100000 in
set_option maxHeartbeats 1000000 in
theorem Cmp_bad (b : Bool) (s : Value) (l : List Nat) (b' : Bool) (s' : Value) (l' : List Nat) (w : World) (h : Lim w s l) (g : Lim w s' l') (hv : (vld b l && vld b' l') = false) :
    Calls Try.prog 33 #[.agg #[.bool b, s], .agg #[.bool b', s']] w fun e w' => e = .returned (.int .i64 0) ∧ Below w.heap.size w w' := by
  have hw1 := fun B W (hr : Row2 W B b s b' s') (hW : Below w.heap.size w W) => allValid_two B b s l b' s' l' W hr.1 hr.2.1 hr.2.2.1 hr.2.2.2 (h.below hW (Nat.le_refl _)) (g.below hW (Nat.le_refl _))
  rw [hv] at hw1
  have HW1 := Lib.hid hw1
  obtain ⟨aa, ca, rfl⟩ := lim_slice h
  obtain ⟨ab, cb, rfl⟩ := lim_slice g
  clear hw1 h g hv
  obtain ⟨ja, hja⟩ : ∃ n, n = l.length := ⟨_, rfl⟩
  obtain ⟨jb, hjb⟩ : ∃ n, n = l'.length := ⟨_, rfl⟩
  rw [← hja, ← hjb] at HW1 ⊢
  clear hja hjb
  have hz := (((Below.refl w.heap.size w).alloc (Nat.le_refl _) (.cells #[.bool b, .slice aa ja ca] 26)).alloc (by simp) (.cells #[.bool b', .slice ab jb cb] 26)).alloc (by simp <;> omega) (.cells #[.bool b, .slice aa ja ca, .bool b', .slice ab jb cb] 26)
  have hr := row2_new ((w.alloc (.cells #[.bool b, .slice aa ja ca] 26)).alloc (.cells #[.bool b', .slice ab jb cb] 26)) b (.slice aa ja ca) b' (.slice ab jb cb)
  simp only [World.size_alloc] at hr
  have HR := Lib.hid hr
  clear hr
  go_enter Try.func33, Try.ntmps33
  go_wp2_with (go_at_call 48; refine (HW1.out _ _ HR.out hz).mono ?_; rintro e w2 ⟨rfl, hb2⟩; have hB2 := hz.trans (hb2.mono hz.size))
  go_ret
  exact ⟨rfl, hB2⟩

set_option maxRecDepth 100000 in
set_option maxHeartbeats 1000000 in
theorem cmp_walk (na nb : Bool) (aa ab : Option Addr) (ja ca jb cb : Nat) (r : Int) (w : World)
    (HW1 : Hid (∀ B W, Row2 W B na (.slice aa ja ca) nb (.slice ab jb cb) → Below w.heap.size w W → Calls Try.prog 48 #[.slice (some ⟨B, 0, none⟩) 2 2] W fun e w' => e = .returned (.bool true) ∧ Below W.heap.size W w'))
    (HW2 : Hid (na = true → nb = true → ∀ W, Below w.heap.size w W → Calls Try.prog 59 #[.slice ab jb cb, .slice aa ja ca] W fun e w' => e = .returned (.int .i64 r) ∧ Below W.heap.size W w'))
    (HW3 : Hid (na = false → nb = false → ∀ W, Below w.heap.size w W → Calls Try.prog 59 #[.slice aa ja ca, .slice ab jb cb] W fun e w' => e = .returned (.int .i64 r) ∧ Below W.heap.size W w'))
    (H4 : Hid (na = true → nb = false → r = -1)) (H5 : Hid (na = false → nb = true → r = 1)) :
    Calls Try.prog 33 #[.agg #[.bool na, .slice aa ja ca], .agg #[.bool nb, .slice ab jb cb]] w fun e w' => e = .returned (.int .i64 r) ∧ Below w.heap.size w w' := by
  have hz := (((Below.refl w.heap.size w).alloc (Nat.le_refl _) (.cells #[.bool na, .slice aa ja ca] 26)).alloc (by simp) (.cells #[.bool nb, .slice ab jb cb] 26)).alloc (by simp <;> omega) (.cells #[.bool na, .slice aa ja ca, .bool nb, .slice ab jb cb] 26)
  have x2 := ((Bx.new w (.bool na) (.slice aa ja ca)).alloc (.cells #[.bool nb, .slice ab jb cb] 26)).alloc (.cells #[.bool na, .slice aa ja ca, .bool nb, .slice ab jb cb] 26)
  have x3 := (Bx.new (w.alloc (.cells #[.bool na, .slice aa ja ca] 26)) (.bool nb) (.slice ab jb cb)).alloc (.cells #[.bool na, .slice aa ja ca, .bool nb, .slice ab jb cb] 26)
  have hr := row2_new ((w.alloc (.cells #[.bool na, .slice aa ja ca] 26)).alloc (.cells #[.bool nb, .slice ab jb cb] 26)) na (.slice aa ja ca) nb (.slice ab jb cb)
  simp only [World.size_alloc] at hr x3
  have HR := Lib.hid hr
  clear hr
  rcases Bool.eq_false_or_eq_true na with ea | ea <;> rcases Bool.eq_false_or_eq_true nb with eb | eb <;> subst ea <;> subst eb
  · have HC := Lib.hid (HW2.out rfl rfl)
    clear HW2 HW3 H4 H5
    go_enter Try.func33, Try.ntmps33
    go_wp2_with (first
      | (go_at_call 48; refine (HW1.out _ _ HR.out hz).mono ?_; rintro e w2 ⟨rfl, hb2⟩; have hB2 := hz.trans (hb2.mono hz.size); have z2 := x2.on hb2; have z3 := x3.on hb2; obtain ⟨p2, p2'⟩ := z2.cells; obtain ⟨p3, p3'⟩ := z3.cells)
      | (go_at_call 59; refine (HC.out _ hB2).mono ?_; rintro e w3 ⟨rfl, hb3⟩; have hB3 := hB2.trans (hb3.mono hB2.size)))
    go_ret
    exact ⟨rfl, hB3⟩
  · have HC := Lib.hid (H4.out rfl rfl)
    clear HW2 HW3 H4 H5
    go_enter Try.func33, Try.ntmps33
    go_wp2_with (first
      | (go_at_call 48; refine (HW1.out _ _ HR.out hz).mono ?_; rintro e w2 ⟨rfl, hb2⟩; have hB2 := hz.trans (hb2.mono hz.size); have z2 := x2.on hb2; have z3 := x3.on hb2; obtain ⟨p2, p2'⟩ := z2.cells; obtain ⟨p3, p3'⟩ := z3.cells))
    go_ret
    exact ⟨by rw [HC.out]; rfl, hB2⟩
  · have HC := Lib.hid (H5.out rfl rfl)
    clear HW2 HW3 H4 H5
    go_enter Try.func33, Try.ntmps33
    go_wp2_with (first
      | (go_at_call 48; refine (HW1.out _ _ HR.out hz).mono ?_; rintro e w2 ⟨rfl, hb2⟩; have hB2 := hz.trans (hb2.mono hz.size); have z2 := x2.on hb2; have z3 := x3.on hb2; obtain ⟨p2, p2'⟩ := z2.cells; obtain ⟨p3, p3'⟩ := z3.cells))
    go_ret
    exact ⟨by rw [HC.out]; rfl, hB2⟩
  · have HC := Lib.hid (HW3.out rfl rfl)
    clear HW2 HW3 H4 H5
    go_enter Try.func33, Try.ntmps33
    go_wp2_with (first
      | (go_at_call 48; refine (HW1.out _ _ HR.out hz).mono ?_; rintro e w2 ⟨rfl, hb2⟩; have hB2 := hz.trans (hb2.mono hz.size); have z2 := x2.on hb2; have z3 := x3.on hb2; obtain ⟨p2, p2'⟩ := z2.cells; obtain ⟨p3, p3'⟩ := z3.cells)
      | (go_at_call 59; refine (HC.out _ hB2).mono ?_; rintro e w3 ⟨rfl, hb3⟩; have hB3 := hB2.trans (hb3.mono hB2.size)))
    go_ret
    exact ⟨rfl, hB3⟩

theorem Cmp_any (va vb : Value) (a b : Int) (ha : (dig a.natAbs).length ≤ 1024) (hb : (dig b.natAbs).length ≤ 1024) (w : World) (h' : Num w va a) (g' : Num w vb b) :
    Calls Try.prog 33 #[va, vb] w fun e w' => e = .returned (.int .i64 (cmpI a b)) ∧ Below w.heap.size w w' := by
  obtain ⟨s, rfl, h⟩ := h'
  obtain ⟨s', rfl, g⟩ := g'
  have hw1 := fun B W (hr : Row2 W B (decide (a < 0)) s (decide (b < 0)) s') (hW : Below w.heap.size w W) => allValid_two B _ s _ _ s' _ W hr.1 hr.2.1 hr.2.2.1 hr.2.2.2 (h.below hW (Nat.le_refl _)) (g.below hW (Nat.le_refl _))
  rw [vld_num a ha, vld_num b hb, Bool.true_and] at hw1
  have hw2 : decide (a < 0) = true → decide (b < 0) = true → ∀ W, Below w.heap.size w W → Calls Try.prog 59 #[s', s] W fun e w' => e = .returned (.int .i64 (cmpI a b)) ∧ Below W.heap.size W w' := fun ea eb W hW => by
    have := compare_any s' s (dig b.natAbs) (dig a.natAbs) (dig_Lm _) (dig_Lm _) W (g.below hW (Nat.le_refl _)) (h.below hW (Nat.le_refl _))
    rw [cmp_dig] at this
    have e : cmpN b.natAbs a.natAbs = cmpI a b := by
      have := of_decide_eq_true ea
      have := of_decide_eq_true eb
      unfold cmpN cmpI; split <;> split <;> (try split) <;> (try split) <;> omega
    rwa [e] at this
  have hw3 : decide (a < 0) = false → decide (b < 0) = false → ∀ W, Below w.heap.size w W → Calls Try.prog 59 #[s, s'] W fun e w' => e = .returned (.int .i64 (cmpI a b)) ∧ Below W.heap.size W w' := fun ea eb W hW => by
    have := compare_any s s' (dig a.natAbs) (dig b.natAbs) (dig_Lm _) (dig_Lm _) W (h.below hW (Nat.le_refl _)) (g.below hW (Nat.le_refl _))
    rw [cmp_dig] at this
    have e : cmpN a.natAbs b.natAbs = cmpI a b := by
      have := of_decide_eq_false ea
      have := of_decide_eq_false eb
      unfold cmpN cmpI; split <;> split <;> (try split) <;> (try split) <;> omega
    rwa [e] at this
  have h4 : decide (a < 0) = true → decide (b < 0) = false → cmpI a b = -1 := fun ea eb => by
    have := of_decide_eq_true ea
    have := of_decide_eq_false eb
    unfold cmpI; rw [if_pos (by omega)]
  have h5 : decide (a < 0) = false → decide (b < 0) = true → cmpI a b = 1 := fun ea eb => by
    have := of_decide_eq_false ea
    have := of_decide_eq_true eb
    unfold cmpI; rw [if_neg (by omega), if_pos (by omega)]
  obtain ⟨aa, ca, rfl⟩ := lim_slice h
  obtain ⟨ab, cb, rfl⟩ := lim_slice g
  exact cmp_walk _ _ aa ab _ ca _ cb _ w (Lib.hid hw1) (Lib.hid hw2) (Lib.hid hw3) (Lib.hid h4) (Lib.hid h5)

end Go.Proofs.Ytodmbklednehbaa
