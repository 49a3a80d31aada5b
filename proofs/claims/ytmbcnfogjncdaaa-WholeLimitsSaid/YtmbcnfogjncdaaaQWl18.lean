/- A part of the proofs about fractions. -/
import Derived.Test.YtmbcnfogjncdaaaQWl16
import Derived.Test.YtmbcnfogjncdaaaQWl17
namespace Go.Proofs.Ytmbcnfogjncdaaa
open Go.RowKit Wh
theorem rep_Lm (n : Nat) {y : Nat} (hy : y < 65536) : Lm (List.replicate n y) := fun x hx => by rw [List.eq_of_mem_replicate hx]; exact hy
theorem rep_vld (b : Bool) (n : Nat) {y : Nat} (h0 : y ≠ 0) (hn : 0 < n) : vld b (List.replicate n y) = decide (n ≤ 1024) := by
 have e : List.replicate n y ≠ [] := by intro h; have := congrArg List.length h; simp at this; omega
 have h1 : (List.replicate n y)[(List.replicate n y).length - 1]?.getD 0 = y := by rw [List.length_replicate, List.getElem?_replicate, if_pos (by omega)]; rfl
 unfold vld
 rw [if_neg e, h1, List.length_replicate, decide_eq_true h0, Bool.and_true]
def AnsW (W : World) (t : Option Int) (cd : Int) (v : Value) (c : Int) : Prop := (∃ z, t = some z ∧ c = 0 ∧ Num W v z) ∨ (t = none ∧ c = cd ∧ v = zeroW)
theorem AnsW.below {W W' : World} {t : Option Int} {cd c : Int} {v : Value} {n : Nat} (h : AnsW W t cd v c) (hb : Below n W W') (hn : W.heap.size ≤ n) : AnsW W' t cd v c := by
 rcases h with ⟨z, h1, h2, h3⟩ | h
 · exact .inl ⟨z, h1, h2, h3.below hb hn⟩
 · exact .inr h
theorem AnsW.on {W W' : World} {t : Option Int} {cd c : Int} {v : Value} (h : AnsW W t cd v c) (hb : Below W.heap.size W W') : AnsW W' t cd v c := h.below hb (Nat.le_refl _)
theorem AnsW.opened {W : World} {t : Option Int} {cd c : Int} {v : Value} (h : AnsW W t cd v c) : ∃ b a k e, v = .agg #[.bool b, .slice a k e] := by
 rcases h with ⟨z, -, -, h3⟩ | ⟨-, -, h⟩
 · exact h3.opened
 · exact ⟨_, _, _, _, h⟩
def TellsW (W : World) (f : FuncId) (a : Array Value) (t : Option Int) (cd : Int) : Prop :=
 ∀ W', Below W.heap.size W W' → Calls Try.prog f a W' fun e w' => (∃ v c, e = .returned (.tuple #[v, .int .i64 c]) ∧ AnsW w' t cd v c) ∧ Below W'.heap.size W' w'
end Go.Proofs.Ytmbcnfogjncdaaa
