/-
A slice of spans that the call itself has made.
-/
import Derived.Laws.EntriesVeiled
import Derived.Maps.AppendAt
import Derived.Test.YtanlaejdibikiaaGreatChanges
namespace Go.Proofs.YtanlaejdibikiaaGreat
open Go.RowKit Go.Shelf Sp

theorem Tryz.infoS : (Tryz.prog.info? 31).map (fun i => (i.zero, i.size, i.bytes)) = some (some (.agg #[.int .i64 0, .int .i64 0]), 2, 16) := by kernel_rfl

/-- The cells of spans. -/
def cellsS (l : L) : List Value := l.flatMap fun s => [Value.int .i64 s.1, Value.int .i64 s.2]
theorem cellsS_append (a b : L) : cellsS (a ++ b) = cellsS a ++ cellsS b := by simp [cellsS]
theorem cellsS_length (l : L) : (cellsS l).length = l.length * 2 := by
  induction l with
  | nil => rfl
  | cons s t ih => simp only [cellsS, List.flatMap_cons, List.length_append, List.length_cons, List.length_nil] at ih ⊢; omega
theorem cellsS_get (l : L) : ∀ (j : Nat), j < l.length → (cellsS l)[j * 2]? = some (.int .i64 (l[j]?.getD (0, 0)).1) ∧ (cellsS l)[j * 2 + 1]? = some (.int .i64 (l[j]?.getD (0, 0)).2) := by
  induction l with
  | nil => intro j h; simp at h
  | cons s t ih =>
    intro j h
    cases j with
    | zero => simp [cellsS]
    | succ j =>
      have := ih j (by simpa using h)
      rw [show (j + 1) * 2 = j * 2 + 2 from by omega, show j * 2 + 2 + 1 = (j * 2 + 1) + 2 from by omega]
      simp only [cellsS, List.flatMap_cons] at this ⊢
      simpa using this

theorem Spn.of_owns {W : World} {base : Nat} {v : Value} {n : Nat} {l : L} (h : W.ownsRow base 31 2 v n (cellsS l)) (hl : l.length ≤ 8796093022208) : Spn W v l := by
  have hn : l.length = n := by have := h.1; rw [cellsS_length] at this; omega
  subst hn
  rcases h.2 with ⟨rfl, h0⟩ | ⟨g, cap, cur, rfl, hg, hh, hc, hm, hcur, ht⟩
  · have : l = [] := List.eq_nil_of_length_eq_zero h0
    subst this
    exact Spn.nil W
  · unfold maxLen at hm
    refine ⟨_, cap, rfl, hc, ⟨hm, hl, fun e => by cases e⟩, .inr ⟨g, 0, rfl, fun j hj => ?_⟩⟩
    obtain ⟨g1, g2⟩ := cellsS_get l j hj
    have h1 := h.cells (g := g) rfl _ _ g1
    have h2 := h.cells (g := g) rfl _ _ g2
    rw [add_eq] at h1 h2
    exact ⟨h1, h2⟩

theorem cell_two_new (w : World) (x y : Value) (T : TypeId) : ∀ j u, [x, y][j]? = some u → (w.alloc (.cells #[x, y] T)).cell? ((⟨w.heap.size, 0, none⟩ : Addr).add j) = some u := by
  intro j u h
  rw [add_eq, Nat.zero_add]
  match j, h with
  | 0, h => simp at h; subst h; simp
  | 1, h => simp at h; subst h; simp

theorem keeps_of_below {W W' : World} (h : Below W.heap.size W W') : KeepsOthers W W' := ⟨h.size, fun k _ hk _ => (h.block k (Array.getElem?_eq_some_iff.1 hk).1).trans hk⟩

end Go.Proofs.YtanlaejdibikiaaGreat
