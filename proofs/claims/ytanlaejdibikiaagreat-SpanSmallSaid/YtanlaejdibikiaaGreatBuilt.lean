/-
'Built': a set of at most 60 spans, out of whatever numbers.
-/
import Derived.Test.YtanlaejdibikiaaGreatAwake
namespace Go.Proofs.YtanlaejdibikiaaGreat
open Go.RowKit Go.Shelf Sp

/-- The slice value v holds the numbers l, each of two bytes. -/
def Lim (W : World) (v : Value) (l : List Nat) : Prop :=
  ∃ a cap, v = .slice a l.length cap ∧ l.length ≤ cap ∧ (cap ≤ 9223372036854775807 ∧ l.length ≤ 70368744175616 ∧ (a = none → cap = 0)) ∧
    (l = [] ∨ ∃ b off, a = some ⟨b, off, none⟩ ∧ ∀ j, j < l.length → W.cell? ⟨b, off + j, none⟩ = some (.int .u16 ((l[j]?.getD 0 : Nat) : Int)))
def Lm (l : List Nat) : Prop := ∀ x ∈ l, x < 65536
theorem Lm.getD {l : List Nat} (h : Lm l) (j : Nat) : l[j]?.getD 0 < 65536 := by
  rcases Nat.lt_or_ge j l.length with hj | hj
  · rw [List.getElem?_eq_getElem hj]; exact h _ (List.getElem_mem hj)
  · rw [List.getElem?_eq_none hj]; decide
theorem Lim.nil (W : World) : Lim W (.slice none 0 0) [] := ⟨none, 0, rfl, by simp, ⟨by omega, by simp, fun _ => rfl⟩, .inl rfl⟩
theorem Lim.block {W : World} {a : Option Addr} {n cap : Nat} {l : List Nat} (h : Lim W (.slice a n cap) l) (hl : l ≠ []) : ∃ b off, a = some ⟨b, off, none⟩ ∧ b < W.heap.size ∧ ∀ j, j < l.length → W.cell? ⟨b, off + j, none⟩ = some (.int .u16 ((l[j]?.getD 0 : Nat) : Int)) := by
  obtain ⟨a', cap', e, _, _, h⟩ := h
  cases e
  rcases h with h | ⟨b, off, rfl, hc⟩
  · exact absurd h hl
  · exact ⟨b, off, rfl, lt_of_cell (hc 0 (by cases l with | nil => exact absurd rfl hl | cons => simp)), hc⟩
theorem Lim.below {W W' : World} {B : Nat} {v : Value} {l : List Nat} (h : Lim W v l) (hB : Below B W W') (hs : W.heap.size ≤ B) : Lim W' v l := by
  obtain ⟨a, cap, rfl, h1, h2, h⟩ := h
  refine ⟨a, cap, rfl, h1, h2, ?_⟩
  rcases h with h | ⟨b, off, rfl, hc⟩
  · exact .inl h
  · exact .inr ⟨b, off, rfl, fun j hj => (hB.cell (p := ⟨b, off + j, none⟩) (Nat.lt_of_lt_of_le (lt_of_cell (hc j hj)) hs)).trans (hc j hj)⟩

/-- A set that the call has made. -/
def Makes (w : World) (e : Ending) (w' : World) : Prop := (∃ v l, e = .returned v ∧ IsSet l ∧ l.length ≤ 60 ∧ w'.ownsRow w.heap.size 31 2 v l.length (cellsS l)) ∧ Below w.heap.size w w'