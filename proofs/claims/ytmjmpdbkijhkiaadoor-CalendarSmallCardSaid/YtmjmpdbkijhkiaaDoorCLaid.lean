/-
From the row's condition to the table's cells; the witness; a law's last step.
-/
import Derived.Test.YtmjmpdbkijhkiaaDoorCBase
import Derived.Test.YtmjmpdbkijhkiaaDoorRows
import Derived.ProofKit
import Derived.OpenShut
import Derived.ChangeSame
import Derived.LaidMore
import Derived.Stop.Joined
namespace Go.Proofs.YtmjmpdbkijhkiaaDoor
open Go.ChangeShapes Go.WideShapes Go.ChangeAt Go.RowKit

theorem Tryd.ownKnob : ownKnob Tryd.prog.godebug = none := by kernel_rfl
theorem Tryd.gLens : Tryd.prog.globalNamed "annuitant/calendar.lengths" = some 0 := by kernel_rfl
theorem Tryd.tLens : (Tryd.prog.globals[0]?).map (·.type) = some 43 := by kernel_rfl
theorem Tryd.cellsI : Tryd.prog.cellsOf 3 = 1 := by kernel_rfl
theorem Tryd.cellsL : Tryd.prog.cellsOf 43 = 12 := by kernel_rfl

abbrev laid1 : List (String × DataW Unit) := [("annuitant/calendar.lengths", Rows.laid_annuitant_calendar_lengths)]

theorem lens_of_laid {W : World} (h : laidMetH Tryd.prog laid1 W) : Lens W := by
  rw [MakeChecks.laidMetH_plain _ _ _ (by kernel_rfl)] at h
  obtain ⟨ps, ⟨g0, t0, cs0, f0, p0, q0, hg0, ht0, hv0, hd0, _, _⟩, _⟩ := h
  obtain rfl := Option.some.inj (Tryd.gLens.symm.trans hg0)
  obtain rfl := Option.some.inj (Tryd.tLens.symm.trans ht0)
  obtain ⟨xs, m1, rfl, hx1, hlen, hn, hel⟩ := DataW.trod_array Tryd.underlying43 hd0
  have hxs := (Prod.mk.injEq _ _ _ _).mp hx1 |>.1
  simp only [Rows.laid_annuitant_calendar_lengths, DataW.agg.injEq] at hxs
  intro j hj
  have hj' : j < xs.length := by omega
  have h0 := hel j hj
  rw [List.getElem?_eq_getElem hj'] at h0
  obtain ⟨k, e1, e2, _⟩ := DataW.trod_int Tryd.underlying3 h0
  have hk : (xs.map (·.1))[j]? = some (.lit (.int .i64 k)) := by
    rw [List.getElem?_map, List.getElem?_eq_getElem hj', e2]; rfl
  rw [← hxs] at hk
  have hkv : k = lenT j := by
    match j, hj with
    | 0, _ | 1, _ | 2, _ | 3, _ | 4, _ | 5, _ | 6, _ | 7, _ | 8, _ | 9, _ | 10, _ | 11, _ => simpa [lenT] using hk.symm
  subst hkv
  rw [World.var?_cell hg0 hv0 j]
  rw [Tryd.cellsI] at e1
  obtain ⟨l⟩ := cs0
  have hl : l.length = 12 := by rw [Tryd.cellsL] at hlen; simpa using hlen
  simp only [Nat.mul_one] at e1
  have : l[j]? = some (Value.int .i64 (lenT j)) := by
    have := congrArg (fun l => l[0]?) e1
    simpa using this
  simpa using this

/-- The door's own heap meets the condition. -/
theorem door_met (os : Os) (args : Array Value) : laidMetH Tryd.prog laid1 ((World.doorLaid Tryd.prog 400 os).forCall (fun _ _ => 0) ⟨#[], args, []⟩).memory :=
  laidMetH_of_parts3 (fuel := 8) (laidMet_of_run' 8 (by kernel_rfl) (by kernel_rfl)) (by kernel_rfl) (by kernel_rfl)

/-- Of a law: it says true, what was handed in reads as before, and new blocks are all that has come. -/
theorem lawPost {H : Type} {enc : TypeId × Value → H} {P : Program} {f : Func} {s : ChangeSpec} {apart fresh handsOn again : Bool} {W W' : World} {args : Array Value} {v : Value} {ds gs : List (DataW H)} {pl pa pv : List MemPlace}
    (hw : DataW.Whole enc P f.params.toList s.vars apart W args.toList ds gs pl) (hb : Below W.heap.size W W') (hpl : pl = pa ++ pv)
    (hok : ∀ (j : Nat) (t : TypeId) (r : Value), f.resultTypes[j]? = some t → (v.resultList f.resultTypes.size)[j]? = some r → Value.okWide P W' .any 0 t r)
    (hr : ∀ (b : Nat) (sp : Nat → Bool) (hd : Bool), DataW.TrodAll enc P W' b sp hd f.resultTypes.toList (v.resultList f.resultTypes.size) (s.fn H (ds ++ gs)).results [])
    (ha : ∀ sp : Nat → Bool, (∀ p ∈ pl, sp p.block = true) → DataW.TrodAll enc P W' 0 sp true f.params.toList args.toList (s.fn H (ds ++ gs)).args pa)
    (hv : ∀ sp : Nat → Bool, (∀ p ∈ pl, sp p.block = true) → DataW.TrodVars enc P W' sp s.vars (s.fn H (ds ++ gs)).vars pv) :
    s.post enc P f apart fresh handsOn again W args v W' := by
  subst hpl
  have below : ∀ p ∈ pa ++ pv, p.block < W.heap.size := fun p hp => hw.lt p hp
  have sp0 : ∀ p ∈ pa ++ pv, decide (p.block < W.heap.size) = true := fun p hp => decide_eq_true (below p hp)
  have every : ∀ p ∈ pa ++ pv, (fun _ : Nat => true) p.block = true := fun _ _ => rfl
  obtain ⟨p0, q0, h1, h2, h3, hz, hn⟩ := id hw
  have A1 := ha (fun b => decide (b < W.heap.size)) sp0
  have V1 := hv (fun b => decide (b < W.heap.size)) sp0
  have fr : ∀ b off, MemPlace.cell b off ∈ pa ++ pv → W'.frozen? ⟨b, off, none⟩ = false := fun b off hp => (hb.frozen (p := ⟨b, off, none⟩) (below _ hp)).trans (hz b off hp)
  refine ⟨ds, gs, pa ++ pv, [], pa, pv, hw, hr _ _ _, A1, V1, World.keptBut_mono (fun p hp => ⟨hp, .inr (by simpa using hp)⟩) (hb.frame (· ∈ pa ++ pv)), fun _ => ⟨hok, _, _, [] ++ pa ++ pv, ⟨[] ++ pa, pv, trodAll_append (ha _ every) (hr _ _ _), hv _ every, rfl, fun b off hp => fr b off (by simpa using hp), fun h => by simpa using hn h⟩, ?_⟩⟩
  intro p hp _
  simpa using hp

end Go.Proofs.YtmjmpdbkijhkiaaDoor
