/- 'WholeWrong' returns true for every two numbers, valid or not: if one of them is invalid, every function that can return an error returns ErrArg and zero values, and Cmp returns 0. No condition. -/
import Derived.Test.YtodmbklednehbaaWrong
namespace Go.Proofs.Ytodmbklednehbaa
open Go.ChangeShapes Go.WideShapes Go.ChangeAt Go.RowKit Wh

theorem WholeWrong_walk (bia : Bool) (sia : Value) (lia : List Nat) (bib : Bool) (sib : Value) (lib : List Nat) (w : World) (hia : Lim w sia lia) (hib : Lim w sib lib) :
    Calls Try.prog 11 #[.agg #[.bool bia, sia], .agg #[.bool bib, sib]] w fun e w' => e = .returned (.bool true) ∧ Below w.heap.size w w' := by
  obtain ⟨aia, cia, rfl⟩ := lim_slice hia
  obtain ⟨aib, cib, rfl⟩ := lim_slice hib
  cases va : vld bia lia with
  | true =>
    cases vb : vld bib lib with
    | true => exact WholeWrong_both bia aia cia lia bib aib cib lib w hia hib va vb
    | false =>
      rcases Nat.lt_or_ge 2000 lia.length with la | la
      · exact WholeWrong_tf_a bia aia cia lia bib aib cib lib w hia hib va vb la
      · rcases Nat.lt_or_ge 2000 lib.length with lb | lb
        · exact WholeWrong_tf_b bia aia cia lia bib aib cib lib w hia hib va vb la lb
        · exact WholeWrong_tf_m bia aia cia lia bib aib cib lib w hia hib va vb la lb
  | false =>
    rcases Nat.lt_or_ge 2000 lia.length with la | la
    · exact WholeWrong_f_a bia aia cia lia bib aib cib lib w hia hib va la
    · rcases Nat.lt_or_ge 2000 lib.length with lb | lb
      · exact WholeWrong_f_b bia aia cia lia bib aib cib lib w hia hib va la lb
      · exact WholeWrong_f_m bia aia cia lia bib aib cib lib w hia hib va la lb

set_option maxRecDepth 100000 in
theorem wholeWrong_lifted (os : Os) (started : os.Started) (H : Type) (enc : TypeId × Value → H) :
    ReturnsInHanded {} Try.checked os 11 .any (Rows.wholeWrongSpec.pre6 enc Try.prog Try.f11 Rows.wholeWrongRow.domain false) (Rows.wholeWrongSpec.post enc Try.prog Try.f11 false true false false) := by
  refine returnsInHanded_of_change_sized (C := Try.checked) Try.ownKnob started (by kernel_rfl) Try.func11
    (ChangeSpec.witness6 (enc := enc) (C := Try.checked) false ⟨#[], #[.agg #[.bool false, .slice none 0 0], .agg #[.bool false, .slice none 0 0]], []⟩ 8 (by kernel_rfl) (by kernel_rfl) (by kernel_rfl) (by kernel_rfl)) ?_
  intro W base args ds gs before hval0 hW hcnd hsz0 _
  have hval : ∀ (j : Nat) t v, Try.f11.params[j]? = some t → args[j]? = some v → Value.okWide Try.prog W .any base t v := hval0
  have hsz : (DataW.weightsEach Try.prog (Try.f11.params.toList ++ Rows.wholeWrongSpec.plain.varTypes Try.prog) (ds ++ gs)).all (· ≤ reachBytes) = true := hsz0
  have hW' := hW
  obtain ⟨p, q, hA0, hV, rfl, hfz, hnd⟩ := hW
  have hA : DataW.TrodAll enc Try.prog W 0 (fun _ => true) true Try.f11.params.toList args.toList ds p := hA0
  rw [Try.params11] at hA hval hsz
  obtain ⟨v0, vs0, d0, ds0, p0, q0, hargs, rfl, rfl, h0, r0⟩ := trodAll_cons hA
  obtain ⟨v1, vs1, d1, ds1, p1, q1, rfl, rfl, rfl, h1, r1⟩ := trodAll_cons r0
  obtain ⟨rfl, rfl, rfl⟩ := trodAll_nil r1
  obtain rfl : args = #[v0, v1] := by cases args; simp_all
  obtain ⟨rfl, rfl⟩ := trodVars_none hV
  obtain ⟨b0, s0, l0, rfl, lim0, -, again0⟩ := open_whole (hval 0 26 _ rfl rfl) h0 (within_of hsz (j := 0) rfl rfl)
  obtain ⟨b1, s1, l1, rfl, lim1, -, again1⟩ := open_whole (hval 1 26 _ rfl rfl) h1 (within_of hsz (j := 1) rfl rfl)
  clear hA0 hval0
  simp only [List.append_nil] at hW'
  refine (WholeWrong_walk b0 s0 l0 b1 s1 l1 W lim0 lim1).mono fun e W' ⟨he, hb⟩ => ?_
  subst he
  exact ⟨_, rfl, lawPost (pa := _) (pv := []) hW' hb (by simp) (ok_one (by kernel_rfl) rfl (okWide_bool_mk Try.underlying4 _)) (fun _ _ _ => (trodAll_cons_mk (shut_bool Try.underlying4 _) trodAll_mk0)) (fun sp hsp => (trodAll_cons_mk (again0 W' sp hb (fun q hq => hsp q (by simp only [List.mem_append] at hq ⊢; simp [hq]))) (trodAll_cons_mk (again1 W' sp hb (fun q hq => hsp q (by simp only [List.mem_append] at hq ⊢; simp [hq]))) trodAll_mk0))) (fun _ _ => rfl)⟩

theorem wholeWrong_proved : Rows.WholeWrongSaid :=
  OpenClaim.holds_of_wide 11 Try.f11 rfl rfl rfl rfl rfl rfl rfl ⟨rfl, rfl, rfl, rfl, rfl⟩ rfl rfl rfl rfl rfl (by kernel_rfl) Try.func11 (by kernel_rfl)
    (of_decide_eq_true (by kernel_rfl)) (by unfold Func.isWrapper; first | (rw [if_pos (by decide +kernel)]; kernel_rfl) | (rw [if_neg (by decide +kernel)]; exact ⟨rfl, rfl⟩))
    (fun os started H enc _ => wholeWrong_lifted os started H enc)

end Go.Proofs.Ytodmbklednehbaa
