/- 'SpanSets' returns true: for any two slices of spans Union, Meet, Minus and Within return what the reference returns, the arguments are neither modified nor kept, and the results share no memory. No condition. -/
import Derived.Test.YtanlaejdibikiaaGreatSetsf
import Derived.Test.YtanlaejdibikiaaGreatRow
import Derived.Test.YtanlaejdibikiaaGreatRowS
namespace Go.Proofs.YtanlaejdibikiaaGreat
open Go.ChangeShapes Go.WideShapes Go.ChangeAt Go.RowKit

set_option maxRecDepth 100000 in
theorem spanSets_lifted (os : Os) (started : os.Started) (H : Type) (enc : TypeId × Value → H) :
    ReturnsInHanded {} Tryz.checked os 3 .any (Rows.spanSetsSpec.pre6 enc Tryz.prog Tryz.f3 Rows.spanSetsRow.domain false) (Rows.spanSetsSpec.post enc Tryz.prog Tryz.f3 false true false false) := by
  refine returnsInHanded_of_change_sized (C := Tryz.checked) Tryz.ownKnob started (by kernel_rfl) Tryz.func3
    (ChangeSpec.witness6 (enc := enc) (C := Tryz.checked) false ⟨#[], #[.slice none 0 0, .slice none 0 0], []⟩ 8 (by kernel_rfl) (by kernel_rfl) (by kernel_rfl) (by kernel_rfl)) ?_
  intro W base args ds gs before hval0 hW hcnd hsz0 _
  have hval : ∀ (j : Nat) t v, Tryz.f3.params[j]? = some t → args[j]? = some v → Value.okWide Tryz.prog W .any base t v := hval0
  have hsz : (DataW.weightsEach Tryz.prog (Tryz.f3.params.toList ++ Rows.spanSetsSpec.plain.varTypes Tryz.prog) (ds ++ gs)).all (· ≤ reachBytes) = true := hsz0
  have hW' := hW
  obtain ⟨p, q, hA0, hV, rfl, hfz, hnd⟩ := hW
  have hA : DataW.TrodAll enc Tryz.prog W 0 (fun _ => true) true Tryz.f3.params.toList args.toList ds p := hA0
  rw [Tryz.params3] at hA hval hsz
  obtain ⟨v0, vs0, d0, ds0, p0, q0, hargs, rfl, rfl, h0, r0⟩ := trodAll_cons hA
  obtain ⟨v1, vs1, d1, ds1, p1, q1, rfl, rfl, rfl, h1, r1⟩ := trodAll_cons r0
  obtain ⟨rfl, rfl, rfl⟩ := trodAll_nil r1
  obtain rfl : args = #[v0, v1] := by cases args; simp_all
  obtain ⟨rfl, rfl⟩ := trodVars_none hV
  obtain ⟨l0, spn0, rng0, again0⟩ := open_spans (hval 0 22 _ rfl rfl) h0 (within_of hsz (j := 0) rfl rfl)
  obtain ⟨l1, spn1, rng1, again1⟩ := open_spans (hval 1 22 _ rfl rfl) h1 (within_of hsz (j := 1) rfl rfl)
  clear hA0 hval0
  simp only [List.append_nil] at hW'
  refine (SpanSets_walk0 (aparts flatsThree) v0 v1 l0 l1 W spn0 spn1).mono fun e W' ⟨he, hb⟩ => ?_
  subst he
  exact ⟨_, rfl, lawPost (pa := _) (pv := []) hW' hb (by simp) (ok_one (by kernel_rfl) rfl (okWide_bool_mk Tryz.underlying4 _)) (fun _ _ _ => (trodAll_cons_mk (shut_bool Tryz.underlying4 _) trodAll_mk0)) (fun sp hsp => (trodAll_cons_mk (again0 W' sp hb (fun q hq => hsp q (by simp only [List.mem_append] at hq ⊢; simp [hq]))) (trodAll_cons_mk (again1 W' sp hb (fun q hq => hsp q (by simp only [List.mem_append] at hq ⊢; simp [hq]))) trodAll_mk0))) (fun _ _ => rfl)⟩

theorem spanSets_proved : Rows.SpanSetsSaid :=
  OpenClaim.holds_of_wide 3 Tryz.f3 rfl rfl rfl rfl rfl rfl rfl ⟨rfl, rfl, rfl, rfl, rfl⟩ rfl rfl rfl rfl rfl (by kernel_rfl) Tryz.func3 (by kernel_rfl)
    (of_decide_eq_true (by kernel_rfl)) (by unfold Func.isWrapper; first | (rw [if_pos (by decide +kernel)]; kernel_rfl) | (rw [if_neg (by decide +kernel)]; exact ⟨rfl, rfl⟩))
    (fun os started H enc _ => spanSets_lifted os started H enc)

end Go.Proofs.YtanlaejdibikiaaGreat
