/- 'WholeGcds' returns true for every three numbers, valid or not. No condition. -/
import Derived.Test.YtodmbklednehbaaGcdsS
namespace Go.Proofs.Ytodmbklednehbaa
open Go.ChangeShapes Go.WideShapes Go.ChangeAt Go.RowKit Wh

theorem WholeGcds_walk (bia : Bool) (sia : Value) (lia : List Nat) (bib : Bool) (sib : Value) (lib : List Nat) (bic : Bool) (sic : Value) (lic : List Nat) (w : World) (hia : Lim w sia lia) (mia : Lm lia) (hib : Lim w sib lib) (mib : Lm lib) (hic : Lim w sic lic) (mic : Lm lic) :
    Calls Try.prog 8 #[.agg #[.bool bia, sia], .agg #[.bool bib, sib], .agg #[.bool bic, sic]] w fun e w' => e = .returned (.bool true) ∧ Below w.heap.size w w' := by
  obtain ⟨aia, cia, rfl⟩ := lim_slice hia
  obtain ⟨aib, cib, rfl⟩ := lim_slice hib
  obtain ⟨aic, cic, rfl⟩ := lim_slice hic
  cases hu : ((decide (lia.length ≤ 40) && vld bia lia) && (decide (lib.length ≤ 40) && vld bib lib) && (decide (lic.length ≤ 40) && vld bic lic)) with
  | false => exact WholeGcds_skip bia aia cia lia bib aib cib lib bic aic cic lic w hia hib hic hu
  | true =>
    simp only [Bool.and_eq_true, decide_eq_true_eq] at hu
    obtain ⟨⟨⟨l0ia, v0ia⟩, ⟨l0ib, v0ib⟩⟩, ⟨l0ic, v0ic⟩⟩ := hu
    obtain ⟨zia, -, eia, nia⟩ := num_of_vld v0ia hia mia
    obtain ⟨zib, -, eib, nib⟩ := num_of_vld v0ib hib mib
    obtain ⟨zic, -, eic, nic⟩ := num_of_vld v0ic hic mic
    exact WholeGcds_core zia zib zic (show Sz 40 zia by unfold Sz; rw [← eia]; exact l0ia) (show Sz 40 zib by unfold Sz; rw [← eib]; exact l0ib) (show Sz 40 zic by unfold Sz; rw [← eic]; exact l0ic) bia aia _ cia bib aib _ cib bic aic _ cic w nia nib nic

set_option maxRecDepth 100000 in
theorem wholeGcds_lifted (os : Os) (started : os.Started) (H : Type) (enc : TypeId × Value → H) :
    ReturnsInHanded {} Try.checked os 8 .any (Rows.wholeGcdsSpec.pre6 enc Try.prog Try.f8 Rows.wholeGcdsRow.domain false) (Rows.wholeGcdsSpec.post enc Try.prog Try.f8 false true false false) := by
  refine returnsInHanded_of_change_sized (C := Try.checked) Try.ownKnob started (by kernel_rfl) Try.func8
    (ChangeSpec.witness6 (enc := enc) (C := Try.checked) false ⟨#[], #[.agg #[.bool false, .slice none 0 0], .agg #[.bool false, .slice none 0 0], .agg #[.bool false, .slice none 0 0]], []⟩ 8 (by kernel_rfl) (by kernel_rfl) (by kernel_rfl) (by kernel_rfl)) ?_
  intro W base args ds gs before hval0 hW hcnd hsz0 _
  have hval : ∀ (j : Nat) t v, Try.f8.params[j]? = some t → args[j]? = some v → Value.okWide Try.prog W .any base t v := hval0
  have hsz : (DataW.weightsEach Try.prog (Try.f8.params.toList ++ Rows.wholeGcdsSpec.plain.varTypes Try.prog) (ds ++ gs)).all (· ≤ reachBytes) = true := hsz0
  have hW' := hW
  obtain ⟨p, q, hA0, hV, rfl, hfz, hnd⟩ := hW
  have hA : DataW.TrodAll enc Try.prog W 0 (fun _ => true) true Try.f8.params.toList args.toList ds p := hA0
  rw [Try.params8] at hA hval hsz
  obtain ⟨v0, vs0, d0, ds0, p0, q0, hargs, rfl, rfl, h0, r0⟩ := trodAll_cons hA
  obtain ⟨v1, vs1, d1, ds1, p1, q1, rfl, rfl, rfl, h1, r1⟩ := trodAll_cons r0
  obtain ⟨v2, vs2, d2, ds2, p2, q2, rfl, rfl, rfl, h2, r2⟩ := trodAll_cons r1
  obtain ⟨rfl, rfl, rfl⟩ := trodAll_nil r2
  obtain rfl : args = #[v0, v1, v2] := by cases args; simp_all
  obtain ⟨rfl, rfl⟩ := trodVars_none hV
  obtain ⟨b0, s0, l0, rfl, lim0, lm0, again0⟩ := open_whole (hval 0 26 _ rfl rfl) h0 (within_of hsz (j := 0) rfl rfl)
  obtain ⟨b1, s1, l1, rfl, lim1, lm1, again1⟩ := open_whole (hval 1 26 _ rfl rfl) h1 (within_of hsz (j := 1) rfl rfl)
  obtain ⟨b2, s2, l2, rfl, lim2, lm2, again2⟩ := open_whole (hval 2 26 _ rfl rfl) h2 (within_of hsz (j := 2) rfl rfl)
  clear hA0 hval0
  simp only [List.append_nil] at hW'
  refine (WholeGcds_walk b0 s0 l0 b1 s1 l1 b2 s2 l2 W lim0 lm0 lim1 lm1 lim2 lm2).mono fun e W' ⟨he, hb⟩ => ?_
  subst he
  exact ⟨_, rfl, lawPost (pa := _) (pv := []) hW' hb (by simp) (ok_one (by kernel_rfl) rfl (okWide_bool_mk Try.underlying4 _)) (fun _ _ _ => (trodAll_cons_mk (shut_bool Try.underlying4 _) trodAll_mk0)) (fun sp hsp => (trodAll_cons_mk (again0 W' sp hb (fun q hq => hsp q (by simp only [List.mem_append] at hq ⊢; simp [hq]))) (trodAll_cons_mk (again1 W' sp hb (fun q hq => hsp q (by simp only [List.mem_append] at hq ⊢; simp [hq]))) (trodAll_cons_mk (again2 W' sp hb (fun q hq => hsp q (by simp only [List.mem_append] at hq ⊢; simp [hq]))) trodAll_mk0)))) (fun _ _ => rfl)⟩

theorem wholeGcds_proved : Rows.WholeGcdsSaid :=
  OpenClaim.holds_of_wide 8 Try.f8 rfl rfl rfl rfl rfl rfl rfl ⟨rfl, rfl, rfl, rfl, rfl⟩ rfl rfl rfl rfl rfl (by kernel_rfl) Try.func8 (by kernel_rfl)
    (of_decide_eq_true (by kernel_rfl)) (by unfold Func.isWrapper; first | (rw [if_pos (by decide +kernel)]; kernel_rfl) | (rw [if_neg (by decide +kernel)]; exact ⟨rfl, rfl⟩))
    (fun os started H enc _ => wholeGcds_lifted os started H enc)

end Go.Proofs.Ytodmbklednehbaa
