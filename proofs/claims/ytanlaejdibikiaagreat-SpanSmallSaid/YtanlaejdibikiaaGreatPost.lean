/-
The last step of a law's row: a call that returns and leaves all that was there as it was; it may have made new blocks.
-/
import Derived.Test.YtanlaejdibikiaaGreatRows
import Derived.WalkKit
import Derived.ProofKit
import Derived.OpenShut
import Derived.Below
import Derived.ChangeSame
namespace Go.Proofs.YtanlaejdibikiaaGreat
open Go.ChangeShapes Go.WideShapes Go.ChangeAt Go.RowKit

theorem Tryz.ownKnob : ownKnob Tryz.prog.godebug = none := by kernel_rfl

/-- Of a law: it says true, what was handed in reads as before, and new blocks are all that has come. -/
theorem lawPost {H : Type} {enc : TypeId × Value → H} {P : Program} {f : Func} {s : ChangeSpec} {apart fresh handsOn again : Bool} {W W' : World} {args : Array Value} {v : Value} {ds gs : List (DataW H)} {pl pa pv : List MemPlace}
    (hw : DataW.Whole enc P f.params.toList s.vars apart W args.toList ds gs pl) (hb : Below W.heap.size W W') (hpl : pl = pa ++ pv)
    (hok : ∀ (j : Nat) (t : TypeId) (r : Value), f.resultTypes[j]? = some t → (v.resultList f.resultTypes.size)[j]? = some r → Value.okWide P W' .any 0 t r)
    (hr : ∀ (b : Nat) (sp : Nat → Bool) (hd : Bool), DataW.TrodAll enc P W' b sp hd f.resultTypes.toList (v.resultList f.resultTypes.size) (s.fn H (ds ++ gs)).results [])
    (ha : ∀ sp : Nat → Bool, (∀ p ∈ pl, sp p.block = true) → DataW.TrodAll enc P W' 0 sp true f.params.toList args.toList (s.fn H (ds ++ gs)).args pa)
    (hv : ∀ sp : Nat → Bool, (∀ p ∈ pl, sp p.block = true) → DataW.TrodVars enc P W' sp s.vars (s.fn H (ds ++ gs)).vars pv) :
    s.post enc P f apart fresh handsOn again W args v W' := by
  subst hpl
  have below : ∀ p ∈ pa ++ pv, p.block < W.heap.size := fun p hp => hw.lt p hp
  have sp0 : ∀ p ∈ pa ++ pv, decide (p.block < W.heap.size) = true := fun p hp => decide_eq_true (below p hp)
  have every : ∀ p ∈ pa ++ pv, (fun _ : Nat => true) p.block = true := fun _ _ => rfl
  obtain ⟨p0, q0, h1, h2, h3, hz, hn⟩ := id hw
  have A1 := ha (fun b => decide (b < W.heap.size)) sp0
  have V1 := hv (fun b => decide (b < W.heap.size)) sp0
  have fr : ∀ b off, MemPlace.cell b off ∈ pa ++ pv → W'.frozen? ⟨b, off, none⟩ = false := fun b off hp => (hb.frozen (p := ⟨b, off, none⟩) (below _ hp)).trans (hz b off hp)
  refine ⟨ds, gs, pa ++ pv, [], pa, pv, hw, hr _ _ _, A1, V1, World.keptBut_mono (fun p hp => ⟨hp, .inr (by simpa using hp)⟩) (hb.frame (· ∈ pa ++ pv)), fun _ => ⟨hok, _, _, [] ++ pa ++ pv, ⟨[] ++ pa, pv, trodAll_append (ha _ every) (hr _ _ _), hv _ every, rfl, fun b off hp => fr b off (by simpa using hp), fun h => by simpa using hn h⟩, ?_⟩⟩
  intro p hp _
  simpa using hp

end Go.Proofs.YtanlaejdibikiaaGreat
