/-
Two results laid into two variables: in new blocks, in old ones.
-/
import Derived.Test.YtodmbklednehbaaSz
namespace Go.Proofs.Ytodmbklednehbaa
open Go.RowKit Wh

theorem cell_put_other {W : World} {X : Nat} {u u' : Value} {p : Addr} (h : p.block ≠ X) : ((W.setCell ⟨X, 0, none⟩ u).setCell ⟨X, 1, none⟩ u').cell? p = W.cell? p :=
  (World.cell?_of_block (w := W.setCell ⟨X, 0, none⟩ u) (Below.heap_setCell _ _ _ _ h)).trans (World.cell?_of_block (w := W) (Below.heap_setCell _ _ _ _ h))

/-- Limbs do not lie in a block of a bool and a slice. -/
theorem Lim.put {W : World} {v : Value} {l : List Nat} {X : Nat} {b0 : Bool} {a0 : Option Addr} {k0 c0 : Nat} (h : Lim W v l) (hx : Bx W X (.bool b0) (.slice a0 k0 c0)) (u u' : Value) : Lim ((W.setCell ⟨X, 0, none⟩ u).setCell ⟨X, 1, none⟩ u') v l := by
  obtain ⟨a, cap, rfl, h1, h2, h3⟩ := h
  refine ⟨a, cap, rfl, h1, h2, ?_⟩
  rcases h3 with h3 | ⟨b, off, rfl, hc⟩
  · exact .inl h3
  · by_cases hl : l = []
    · exact .inl hl
    · have hb : b ≠ X := fun e => by
        subst e
        have := hc 0 (List.length_pos_iff.2 hl)
        have hh : W.heap[b]? = some (.cells #[.bool b0, .slice a0 k0 c0] 26 (0, 0)) := hx
        simp only [World.cell?, hh] at this
        rcases Nat.lt_trichotomy off 1 with g | g | g
        · obtain rfl : off = 0 := by omega
          simp at this
        · subst g; simp at this
        · simp at this
          rw [List.getElem?_eq_none (by simp; omega)] at this
          cases this
      exact .inr ⟨b, off, rfl, fun j hj => (cell_put_other hb).trans (hc j hj)⟩

theorem Num.put {W : World} {v : Value} {z : Int} {X : Nat} {b0 : Bool} {a0 : Option Addr} {k0 c0 : Nat} (h : Num W v z) (hx : Bx W X (.bool b0) (.slice a0 k0 c0)) (u u' : Value) : Num ((W.setCell ⟨X, 0, none⟩ u).setCell ⟨X, 1, none⟩ u') v z := by
  obtain ⟨s, e, h⟩ := h; exact ⟨s, e, h.put hx u u'⟩

theorem below_put2 {B : Nat} {a w : World} (h : Below B a w) {X : Nat} (hX : B ≤ X) (u u' : Value) : Below B a ((w.setCell ⟨X, 0, none⟩ u).setCell ⟨X, 1, none⟩ u') := (h.setCell (p := ⟨X, 0, none⟩) hX u).setCell (p := ⟨X, 1, none⟩) hX u'

theorem size_put (W : World) (X : Nat) (u u' : Value) : ((W.setCell ⟨X, 0, none⟩ u).setCell ⟨X, 1, none⟩ u').heap.size = W.heap.size := by simp

theorem two_new {K : Nat} {wc wm : World} (hB : Below K wc wm) (hK : K ≤ wm.heap.size) (x y x' y' : Value) {v v' : Value} {z z' : Int} (g : Num wm v z) (g' : Num wm v' z') :
    Bx ((wm.alloc (.cells #[x, y] 26)).alloc (.cells #[x', y'] 26)) wm.heap.size x y ∧
    Bx ((wm.alloc (.cells #[x, y] 26)).alloc (.cells #[x', y'] 26)) (wm.heap.size + 1) x' y' ∧
    Num ((wm.alloc (.cells #[x, y] 26)).alloc (.cells #[x', y'] 26)) v z ∧
    Num ((wm.alloc (.cells #[x, y] 26)).alloc (.cells #[x', y'] 26)) v' z' ∧
    Below K wc ((wm.alloc (.cells #[x, y] 26)).alloc (.cells #[x', y'] 26)) := by
  have al := (((Below.refl wm.heap.size wm).alloc (Nat.le_refl _) (.cells #[x, y] 26)).alloc (by simp) (.cells #[x', y'] 26))
  have n2 := Bx.new (wm.alloc (.cells #[x, y] 26)) x' y'
  simp only [World.size_alloc] at n2
  exact ⟨(Bx.new wm x y).alloc _, n2, g.below al (Nat.le_refl _), g'.below al (Nat.le_refl _), hB.trans (al.mono hK)⟩

theorem old_new {K X : Nat} {wc wm : World} (hB : Below K wc wm) (hK : K ≤ wm.heap.size) (hX : K ≤ X) {b0 : Bool} {a0 : Option Addr} {k0 c0 : Nat} (hx : Bx wm X (.bool b0) (.slice a0 k0 c0)) (x y x' y' : Value) {v v' : Value} {z z' : Int} (g : Num wm v z) (g' : Num wm v' z') :
    Bx (((wm.setCell ⟨X, 0, none⟩ x).setCell ⟨X, 1, none⟩ y).alloc (.cells #[x', y'] 26)) X x y ∧
    Bx (((wm.setCell ⟨X, 0, none⟩ x).setCell ⟨X, 1, none⟩ y).alloc (.cells #[x', y'] 26)) wm.heap.size x' y' ∧
    Num (((wm.setCell ⟨X, 0, none⟩ x).setCell ⟨X, 1, none⟩ y).alloc (.cells #[x', y'] 26)) v z ∧
    Num (((wm.setCell ⟨X, 0, none⟩ x).setCell ⟨X, 1, none⟩ y).alloc (.cells #[x', y'] 26)) v' z' ∧
    Below K wc (((wm.setCell ⟨X, 0, none⟩ x).setCell ⟨X, 1, none⟩ y).alloc (.cells #[x', y'] 26)) := by
  have e := size_put wm X x y
  have p1 := hx.put x y
  have q1 := g.put hx x y
  have q2 := g'.put hx x y
  have hp := below_put2 hB hX x y
  generalize (wm.setCell ⟨X, 0, none⟩ x).setCell ⟨X, 1, none⟩ y = w2 at *
  have al := ((Below.refl w2.heap.size w2).alloc (Nat.le_refl _) (.cells #[x', y'] 26))
  have n2 := Bx.new w2 x' y'
  rw [e] at n2
  exact ⟨p1.alloc _, n2, q1.below al (Nat.le_refl _), q2.below al (Nat.le_refl _), hp.alloc (by omega) _⟩

theorem two_old {K X Y : Nat} {wc wm : World} (hB : Below K wc wm) (hX : K ≤ X) (hY : K ≤ Y) (hne : X ≠ Y) {b0 b1 : Bool} {a0 a1 : Option Addr} {k0 c0 k1 c1 : Nat} (hx : Bx wm X (.bool b0) (.slice a0 k0 c0)) (hy : Bx wm Y (.bool b1) (.slice a1 k1 c1))
    (x y x' y' : Value) {v v' : Value} {z z' : Int} (g : Num wm v z) (g' : Num wm v' z') :
    Bx ((((wm.setCell ⟨X, 0, none⟩ x).setCell ⟨X, 1, none⟩ y).setCell ⟨Y, 0, none⟩ x').setCell ⟨Y, 1, none⟩ y') X x y ∧
    Bx ((((wm.setCell ⟨X, 0, none⟩ x).setCell ⟨X, 1, none⟩ y).setCell ⟨Y, 0, none⟩ x').setCell ⟨Y, 1, none⟩ y') Y x' y' ∧
    Num ((((wm.setCell ⟨X, 0, none⟩ x).setCell ⟨X, 1, none⟩ y).setCell ⟨Y, 0, none⟩ x').setCell ⟨Y, 1, none⟩ y') v z ∧
    Num ((((wm.setCell ⟨X, 0, none⟩ x).setCell ⟨X, 1, none⟩ y).setCell ⟨Y, 0, none⟩ x').setCell ⟨Y, 1, none⟩ y') v' z' ∧
    Below K wc ((((wm.setCell ⟨X, 0, none⟩ x).setCell ⟨X, 1, none⟩ y).setCell ⟨Y, 0, none⟩ x').setCell ⟨Y, 1, none⟩ y') := by
  have p1 := hx.put x y
  have p2 := hy.put_other x y hne
  have q1 := g.put hx x y
  have q2 := g'.put hx x y
  have hp := below_put2 hB hX x y
  generalize (wm.setCell ⟨X, 0, none⟩ x).setCell ⟨X, 1, none⟩ y = w2 at *
  exact ⟨p1.put_other x' y' (Ne.symm hne), p2.put x' y', q1.put p2 x' y', q2.put p2 x' y', below_put2 hp hY x' y'⟩

end Go.Proofs.Ytodmbklednehbaa
