/-
'Same'.
-/
import Derived.Test.YtodmbklednehbaaRefInt
import Derived.Outline
namespace Go.Proofs.Ytodmbklednehbaa
open Go.RowKit Wh

set_option maxRecDepth 100000 in
set_option maxHeartbeats 2000000 in
theorem Same_any (b : Bool) (s : Value) (l : List Nat) (b' : Bool) (s' : Value) (l' : List Nat) (w : World) (h : Lim w s l) (g : Lim w s' l') :
    Calls Try.prog 35 #[.agg #[.bool b, s], .agg #[.bool b', s']] w fun e w' => e = .returned (.bool (decide (b = b' ∧ l = l'))) ∧ Below w.heap.size w w' := by
  obtain ⟨aa, ca, rfl, hlc, ⟨hcm, hcl, -⟩, -⟩ := id h
  obtain ⟨ab, cb, rfl, glc, ⟨gcm, gcl, -⟩, -⟩ := id g
  have hz := ((Below.refl w.heap.size w).alloc (Nat.le_refl _) (.cells #[.bool b, .slice aa l.length ca] 26)).alloc (by simp) (.cells #[.bool b', .slice ab l'.length cb] 26)
  have x2 := (Bx.new w (.bool b) (.slice aa l.length ca)).alloc (.cells #[.bool b', .slice ab l'.length cb] 26)
  have x3 := Bx.new (w.alloc (.cells #[.bool b, .slice aa l.length ca] 26)) (.bool b') (.slice ab l'.length cb)
  simp only [World.size_alloc] at x3
  obtain ⟨r, hr⟩ : ∃ r, r = decide (b = b' ∧ l = l') := ⟨_, rfl⟩
  rw [← hr]
  have HR := Lib.hid hr
  clear hr
  by_cases hb : b = b'
  · subst hb
    by_cases hl : l.length = l'.length
    · have hl0 : ((l.length : Int) != (l'.length : Int)) = false := by simp [hl]
      have HL := Lib.hid hl
      clear hl
      go_enter Try.func35, Try.ntmps35
      go_wp2
      go_loopw [24] (fun v5 wr => SameRel l l' w wr w.heap.size (w.heap.size + 1) (.bool b) (.slice aa l.length ca) (.bool b) (.slice ab l'.length cb) v5) (fun v5 _ => l.length - (intOf v5).toNat)
      case atStart => exact ⟨0, Nat.zero_le _, rfl, fun j h => absurd h (Nat.not_lt_zero _), hz, x2, x3⟩
      case round =>
        obtain ⟨k, hk, rfl, hz1, hB, y2, y3⟩ := hrel
        obtain ⟨p2, p2'⟩ := y2.cells
        obtain ⟨p3, p3'⟩ := y3.cells
        have HZ := Lib.hid hz1
        clear hz1
        rcases Nat.lt_or_ge k l.length with hlt | hge
        · have hlt' : k < l'.length := by rw [← HL.out]; exact hlt
          obtain ⟨b1, o1, rfl⟩ := lim_addr h (by omega)
          obtain ⟨b2, o2, rfl⟩ := lim_addr g (by omega)
          have c1 := cell_of_lim (h.below hB (Nat.le_refl _)) k hlt
          have c2 := cell_of_lim (g.below hB (Nat.le_refl _)) k hlt'
          have i1 : (k : Int) < (l.length : Int) := by omega
          have i2 : (k : Int) < (l'.length : Int) := by omega
          have i0 : (0 : Int) ≤ (k : Int) := by omega
          obtain ⟨x, hx⟩ : ∃ x, x = l[k]?.getD 0 := ⟨_, rfl⟩
          obtain ⟨y, hy⟩ : ∃ y, y = l'[k]?.getD 0 := ⟨_, rfl⟩
          rw [← hx] at c1
          rw [← hy] at c2
          have HX := Lib.hid hx
          have HY := Lib.hid hy
          clear hx hy
          by_cases hxy : x = y
          · have hxy0 : ((x : Int) != (y : Int)) = false := by simp [hxy]
            have HXY := Lib.hid hxy
            clear hxy
            go_wp2
            case roundEnd =>
              refine ⟨⟨k + 1, by omega, by go_num, fun j hj => ?_, hB, y2, y3⟩, by simp [intOf]; omega⟩
              by_cases e : j = k
              · subst e; rw [← HX.out, ← HY.out]; exact HXY.out
              · exact HZ.out j (by omega)
          · have hxy0 : ((x : Int) != (y : Int)) = true := by simp; omega
            have HXY := Lib.hid hxy
            clear hxy
            go_wp2
            have hr0 : r = false := by
              rw [HR.out]
              exact decide_eq_false fun e => HXY.out (by rw [HX.out, HY.out, e.2])
            go_ret
            exact ⟨by rw [hr0]; rfl, hB⟩
        · have hge' : ¬ (k : Int) < (l.length : Int) := by omega
          go_wp2
          have hr0 : r = true := by
            rw [HR.out]
            have E := eq_of_all HL.out fun j hj => HZ.out j (by omega)
            exact decide_eq_true (by first | exact ⟨rfl, E⟩ | exact ⟨trivial, E⟩ | exact E)
          go_ret
          exact ⟨by rw [hr0]; rfl, hB⟩
    · have hl0 : ((l.length : Int) != (l'.length : Int)) = true := by simp; omega
      have hr0 : Hid (r = false) := Lib.hid (by rw [HR.out]; exact decide_eq_false fun e => hl (by rw [e.2]))
      clear hl
      go_enter Try.func35, Try.ntmps35
      go_wp2
      go_ret
      exact ⟨by rw [hr0.out]; rfl, hz⟩
  · have hb0 : b' = !b := by cases b <;> cases b' <;> simp at hb ⊢
    have hr0 : Hid (r = false) := Lib.hid (by rw [HR.out]; exact decide_eq_false fun e => hb e.1)
    subst hb0
    clear hb
    go_enter Try.func35, Try.ntmps35
    go_wp2
    go_ret
    exact ⟨by rw [hr0.out]; rfl, hz⟩

theorem Same_num (va vb : Value) (a b : Int) (w : World) (h : Num w va a) (g : Num w vb b) :
    Calls Try.prog 35 #[va, vb] w fun e w' => e = .returned (.bool (decide (a = b))) ∧ Below w.heap.size w w' := by
  obtain ⟨s, rfl, h⟩ := h
  obtain ⟨s', rfl, g⟩ := g
  have := Same_any (decide (a < 0)) s _ (decide (b < 0)) s' _ w h g
  rwa [show decide (decide (a < 0) = decide (b < 0) ∧ dig a.natAbs = dig b.natAbs) = decide (a = b) from decide_eq_decide.2 (num_eq_iff a b)] at this

end Go.Proofs.Ytodmbklednehbaa
