/-
A region that draws its order, inside a round of a loop over an iterator: walked as everywhere else.
-/
import Derived.Deep.RegionHeld
import Derived.Test.YtodmbklednehbaaDivB0
namespace Go.Proofs.Ytodmbklednehbaa
open Go.RowKit Go.Shelf Wh

/-- No operation of these is a defer statement. -/
def noDefer (ops : Array Oper) : Bool := ops.all fun o => match o.op with | .defer _ => false | _ => true

theorem rowsIn_wide {y n : Nat} {P : Program} {row : String} {args : Array Value} {w : World} {R : Value → World → Prop} (h : Rows P row args w R) : RowsIn (Fence.wide.inRound y) n P row args w R :=
  fun c cs _ => let ⟨v, w', r, s⟩ := h c cs; ⟨v, w', r, stepsIn_wide.2 s⟩

theorem anyIn_of_any {y n : Nat} {P : Program} {md : Region.Mode} {ops : Array Oper} {Q : Exit → Act → World → Prop} (hnd : noDefer ops = true) (hL : ∀ a w, ¬ Q .outgrown a w) :
    ∀ (fuel : Nat) (listed : Array Bool) (a : Act) (w : World), wpAny P md ops Q fuel listed a w → wpAnyIn (Fence.wide.inRound y) n P md ops Q fuel listed a w
  | 0, _, _, _, h => h
  | fuel + 1, listed, a, w, h => by
    refine ⟨h.1, fun i hi => ?_⟩
    have h1 := h.2 i hi
    have ih := anyIn_of_any (y := y) (n := n) (P := P) (md := md) hnd hL fuel (listed.setIfInBounds i true)
    unfold wpOp at h1
    unfold wpOpIn
    cases ho : ops[i]? with
    | none => rw [ho] at h1; exact ih _ _ h1
    | some o =>
      rw [ho] at h1
      simp only at h1 ⊢
      have hd : ∀ c, o.op ≠ .defer c := fun c e => by
        have := (Array.all_eq_true.1 hnd) i (Array.getElem?_eq_some_iff.1 ho).1
        rw [(Array.getElem?_eq_some_iff.1 ho).2, e] at this
        cases this
      split
      · rename_i hw
        rw [if_pos hw] at h1
        rcases h1 with h1 | ⟨_, a', w', hlet⟩
        · refine ⟨fun _ _ => trivial, ?_⟩
          have es : o.semAt (Fence.wide.inRound y).round a.eval = execOp a.eval o := Oper.semAt_some y _ _ hd
          rw [es]
          unfold Oper.wp at h1
          generalize (execOp a.eval o).run P w = r at *
          cases r with
          | ok nx w' =>
            cases nx with
            | value v => exact ih _ _ h1
            | skip => exact ih _ _ h1
            | defer d => exact ih _ _ h1
            | enter f args =>
              refine ⟨fun e => (by simp [Fence.wide, Fence.inRound] at e), ?_⟩
              refine CallsIn.inRound y (callsIn_wide.2 (Calls.mono h1 fun e w'' he => ?_))
              cases e with
              | returned u => exact ih _ _ he
              | panicked c => exact he
              | outgrown => exact he
            | row row args => exact ⟨fun e => (by simp [Fence.wide, Fence.inRound] at e), rowsIn_wide (Rows.mono h1 fun u w'' he => ih _ _ he)⟩
            | _ => exact absurd h1 (by simp [Oper.upon])
          | halt x w' =>
            cases x with
            | panic u => exact h1
            | _ => exact absurd h1 (by simp [Oper.upon])
        · exact absurd hlet (hL a' w')
      · rename_i hw
        rw [if_neg hw] at h1
        exact ⟨fun _ _ => trivial, ih _ _ h1⟩

end Go.Proofs.Ytodmbklednehbaa
