/- 'FracWrong' returns true for every two fractions, every int and every mode: where the first fraction is not valid, every function that can return an error returns ErrArg and zero values, and Cmp returns 0. No condition. -/
import Derived.ProofKit
import Derived.WalkKit
import Derived.Test.YtnnnhjgmgomlpaaGreatQz1
import Derived.Test.YtnnnhjgmgomlpaaGreatQz2
import Derived.Test.YtnnnhjgmgomlpaaGreatQz3
import Derived.Test.YtnnnhjgmgomlpaaGreatQz4
import Derived.Test.YtnnnhjgmgomlpaaGreatQz5
import Derived.Test.YtnnnhjgmgomlpaaGreatQz6
import Derived.Test.YtnnnhjgmgomlpaaGreatQz7
import Derived.Test.YtnnnhjgmgomlpaaGreatQz8
import Derived.Test.YtnnnhjgmgomlpaaGreatQz9
import Derived.Test.YtnnnhjgmgomlpaaGreatQz10
import Derived.Test.YtnnnhjgmgomlpaaGreatQz11
import Derived.Test.YtnnnhjgmgomlpaaGreatQz12
import Derived.Test.YtnnnhjgmgomlpaaGreatQz13
import Derived.Test.YtnnnhjgmgomlpaaGreatQz14
import Derived.Test.YtnnnhjgmgomlpaaGreatQz15
import Derived.Test.YtnnnhjgmgomlpaaGreatQz16
import Derived.Test.YtnnnhjgmgomlpaaGreatQz17
import Derived.Test.YtnnnhjgmgomlpaaGreatQz18
import Derived.Test.YtnnnhjgmgomlpaaGreatQz19
import Derived.Test.YtnnnhjgmgomlpaaGreatQz20
import Derived.Test.YtnnnhjgmgomlpaaGreatQz21
import Derived.Test.YtnnnhjgmgomlpaaGreatQz22
import Derived.Test.YtnnnhjgmgomlpaaGreatQz23
import Derived.Test.YtnnnhjgmgomlpaaGreatQz24
import Derived.Test.YtnnnhjgmgomlpaaGreatQz25
import Derived.Test.YtnnnhjgmgomlpaaGreatQz26
import Derived.Test.YtnnnhjgmgomlpaaGreatQz27
import Derived.Test.YtnnnhjgmgomlpaaGreatQz28
import Derived.Test.YtnnnhjgmgomlpaaGreatQz29
import Derived.Test.YtnnnhjgmgomlpaaGreatQz30
import Derived.Test.YtnnnhjgmgomlpaaGreatQz31
import Derived.Test.YtnnnhjgmgomlpaaGreatRows
import Derived.Test.YtnnnhjgmgomlpaaGreatQWrongf1
import Derived.Test.YtnnnhjgmgomlpaaGreatQWrongf2
namespace Go.Proofs.YtnnnhjgmgomlpaaGreat
open Go.ChangeShapes Go.WideShapes Go.ChangeAt Go.RowKit
theorem fracWrong_named : Tryz.pinned.checked.prog.funcNamed Rows.fracWrongRow.func = some 14 := by kernel_rfl
theorem fracWrong_closed : joinedFacts Tryz.pinned.checked.prog 14 Tryz.f14 Rows.fracWrongSpec Rows.fracWrongRow = true := by kernel_rfl
theorem fracWrong_inst : Tryz.f14.isInstance Tryz.pinned.checked.prog Rows.fracWrongRow.origin Rows.fracWrongRow.targs := of_decide_eq_true (by kernel_rfl)
theorem fracWrong_wrap : Tryz.f14.isWrapper Tryz.pinned.checked.prog Rows.fracWrongRow.wrapper Rows.fracWrongRow.mainSum := by unfold Func.isWrapper; first | (rw [if_pos (by decide +kernel)]; kernel_rfl) | (rw [if_neg (by decide +kernel)]; exact ⟨rfl, rfl⟩)
end Go.Proofs.YtnnnhjgmgomlpaaGreat
namespace Go.Proofs.YtnnnhjgmgomlpaaGreat
open Go.ChangeShapes Go.WideShapes Go.ChangeAt Go.RowKit Wh
theorem u8_bd5 {n : Int} (h : (Lit.int .u8 n).wf = true) : 0 ≤ n ∧ n < 256 := by
  have e1 : IntKind.min .u8 = 0 := by decide
  have e2 : IntKind.max .u8 = 255 := by decide
  simp only [Lit.wf, Bool.and_eq_true, decide_eq_true_eq, e1, e2] at h
  omega
theorem FracWrong_walk (bia : Bool) (sia : Value) (lia : List Nat) (dia : Bool) (tia : Value) (mia : List Nat) (bib : Bool) (sib : Value) (lib : List Nat) (dib : Bool) (tib : Value) (mib : List Nat) (n : Int) (md : Int) (hmd : 0 ≤ md ∧ md < 256) (w : World) (hia : Lim w sia lia) (iia : Lm lia) (gia : Lim w tia mia) (jia : Lm mia) (hib : Lim w sib lib) (iib : Lm lib) (gib : Lim w tib mib) (jib : Lm mib) :
    Calls Tryz.prog 14 #[.agg #[.bool bia, sia, .bool dia, tia], .agg #[.bool bib, sib, .bool dib, tib], .int .i64 n, .int .u8 md] w fun e w' => e = .returned (.bool true) ∧ Below w.heap.size w w' := by
  obtain ⟨aia, cia, rfl⟩ := lim_slice hia
  obtain ⟨eia, fia, rfl⟩ := lim_slice gia
  obtain ⟨aib, cib, rfl⟩ := lim_slice hib
  obtain ⟨eib, fib, rfl⟩ := lim_slice gib
  cases hsh : ((decide (lia.length ≤ 300) && decide (mia.length ≤ 300)) && (decide (lib.length ≤ 300) && decide (mib.length ≤ 300))) with
  | false => exact FracWrong_long bia aia _ cia dia eia _ fia bib aib _ cib dib eib _ fib n md w hsh
  | true =>
    have hv := fun W (hW : Below w.heap.size w W) => frValid_raw bia aia _ cia lia dia eia _ fia mia W (hia.below hW (Nat.le_refl _)) iia (gia.below hW (Nat.le_refl _)) jia
    cases hva : fvld bia lia dia mia with
    | true => rw [hva] at hv; exact FracWrong_valid bia aia _ cia dia eia _ fia bib aib _ cib dib eib _ fib n md w hsh hv
    | false =>
      rw [hva] at hv
      obtain ⟨m, rfl⟩ := Int.eq_ofNat_of_zero_le hmd.1
      have e1 : (fvld bia lia dia mia && fvld bib lib dib mib) = false := by rw [hva]; rfl
      have e2 : (fvld bib lib dib mib && fvld bia lia dia mia) = false := by rw [hva, Bool.and_false]
      cases hvb : fvld bib lib dib mib with
      | false =>
        exact FracWrong_any bia aia _ cia dia eia _ fia bib aib _ cib dib eib _ fib n _ w hsh hv (fun W hW => frAdd_bad bia aia _ cia dia eia _ fia bib aib _ cib dib eib _ fib lia mia lib mib e1 W (hia.below hW (Nat.le_refl _)) iia (gia.below hW (Nat.le_refl _)) jia (hib.below hW (Nat.le_refl _)) iib (gib.below hW (Nat.le_refl _)) jib) (fun W hW => frSub_bad bib aib _ cib dib eib _ fib bia aia _ cia dia eia _ fia lib mib lia mia e2 W (hib.below hW (Nat.le_refl _)) iib (gib.below hW (Nat.le_refl _)) jib (hia.below hW (Nat.le_refl _)) iia (gia.below hW (Nat.le_refl _)) jia) (fun W hW => frMul_bad bia aia _ cia dia eia _ fia bib aib _ cib dib eib _ fib lia mia lib mib e1 W (hia.below hW (Nat.le_refl _)) iia (gia.below hW (Nat.le_refl _)) jia (hib.below hW (Nat.le_refl _)) iib (gib.below hW (Nat.le_refl _)) jib) (fun W hW => frDiv_bad bib aib _ cib dib eib _ fib bia aia _ cia dia eia _ fia lib mib lia mia e2 W (hib.below hW (Nat.le_refl _)) iib (gib.below hW (Nat.le_refl _)) jib (hia.below hW (Nat.le_refl _)) iia (gia.below hW (Nat.le_refl _)) jia) (fun W hW => frNeg_bad bia aia _ cia lia dia eia _ fia mia hva W (hia.below hW (Nat.le_refl _)) iia (gia.below hW (Nat.le_refl _)) jia) (fun W hW => frPow_bad bia aia _ cia dia eia _ fia n lia mia hva W (hia.below hW (Nat.le_refl _)) iia (gia.below hW (Nat.le_refl _)) jia) (fun W hW => frRound_bad1 bia aia _ cia dia eia _ fia bib aib _ cib dib eib _ fib m lia mia hva W (hia.below hW (Nat.le_refl _)) iia (gia.below hW (Nat.le_refl _)) jia)
          (fun W hW => frRound_bad1 bib aib _ cib dib eib _ fib bia aia _ cia dia eia _ fia m lib mib hvb W (hib.below hW (Nat.le_refl _)) iib (gib.below hW (Nat.le_refl _)) jib) (fun W hW => frFloor_bad bia aia _ cia dia eia _ fia  lia mia hva W (hia.below hW (Nat.le_refl _)) iia (gia.below hW (Nat.le_refl _)) jia) (fun W hW => frCeil_bad bia aia _ cia dia eia _ fia  lia mia hva W (hia.below hW (Nat.le_refl _)) iia (gia.below hW (Nat.le_refl _)) jia) (fun W hW => frInt_bad bia aia _ cia dia eia _ fia  lia mia hva W (hia.below hW (Nat.le_refl _)) iia (gia.below hW (Nat.le_refl _)) jia) (fun W hW => frText_bad bia aia _ cia dia eia _ fia  lia mia hva W (hia.below hW (Nat.le_refl _)) iia (gia.below hW (Nat.le_refl _)) jia) (fun W hW => frCmp_bad1 bia aia _ cia dia eia _ fia bib aib _ cib dib eib _ fib lia mia hva W (hia.below hW (Nat.le_refl _)) iia (gia.below hW (Nat.le_refl _)) jia)
          (fun W hW => frCmp_bad1 bib aib _ cib dib eib _ fib bia aia _ cia dia eia _ fia lib mib hvb W (hib.below hW (Nat.le_refl _)) iib (gib.below hW (Nat.le_refl _)) jib)
      | true =>
        obtain ⟨qb, nb, fb, -, -, -, -⟩ := fra_of_fvld hvb hib iib gib jib
        exact FracWrong_any bia aia _ cia dia eia _ fia bib aib _ cib dib eib _ fib n _ w hsh hv (fun W hW => frAdd_bad bia aia _ cia dia eia _ fia bib aib _ cib dib eib _ fib lia mia lib mib e1 W (hia.below hW (Nat.le_refl _)) iia (gia.below hW (Nat.le_refl _)) jia (hib.below hW (Nat.le_refl _)) iib (gib.below hW (Nat.le_refl _)) jib) (fun W hW => frSub_bad bib aib _ cib dib eib _ fib bia aia _ cia dia eia _ fia lib mib lia mia e2 W (hib.below hW (Nat.le_refl _)) iib (gib.below hW (Nat.le_refl _)) jib (hia.below hW (Nat.le_refl _)) iia (gia.below hW (Nat.le_refl _)) jia) (fun W hW => frMul_bad bia aia _ cia dia eia _ fia bib aib _ cib dib eib _ fib lia mia lib mib e1 W (hia.below hW (Nat.le_refl _)) iia (gia.below hW (Nat.le_refl _)) jia (hib.below hW (Nat.le_refl _)) iib (gib.below hW (Nat.le_refl _)) jib) (fun W hW => frDiv_bad bib aib _ cib dib eib _ fib bia aia _ cia dia eia _ fia lib mib lia mia e2 W (hib.below hW (Nat.le_refl _)) iib (gib.below hW (Nat.le_refl _)) jib (hia.below hW (Nat.le_refl _)) iia (gia.below hW (Nat.le_refl _)) jia) (fun W hW => frNeg_bad bia aia _ cia lia dia eia _ fia mia hva W (hia.below hW (Nat.le_refl _)) iia (gia.below hW (Nat.le_refl _)) jia) (fun W hW => frPow_bad bia aia _ cia dia eia _ fia n lia mia hva W (hia.below hW (Nat.le_refl _)) iia (gia.below hW (Nat.le_refl _)) jia) (fun W hW => frRound_bad1 bia aia _ cia dia eia _ fia bib aib _ cib dib eib _ fib m lia mia hva W (hia.below hW (Nat.le_refl _)) iia (gia.below hW (Nat.le_refl _)) jia)
          (fun W hW => frRound_bad2 qb bib aib _ cib dib eib _ fib bia aia _ cia dia eia _ fia fb m lia mia hva W (nb.below hW (Nat.le_refl _)) (hia.below hW (Nat.le_refl _)) iia (gia.below hW (Nat.le_refl _)) jia) (fun W hW => frFloor_bad bia aia _ cia dia eia _ fia  lia mia hva W (hia.below hW (Nat.le_refl _)) iia (gia.below hW (Nat.le_refl _)) jia) (fun W hW => frCeil_bad bia aia _ cia dia eia _ fia  lia mia hva W (hia.below hW (Nat.le_refl _)) iia (gia.below hW (Nat.le_refl _)) jia) (fun W hW => frInt_bad bia aia _ cia dia eia _ fia  lia mia hva W (hia.below hW (Nat.le_refl _)) iia (gia.below hW (Nat.le_refl _)) jia) (fun W hW => frText_bad bia aia _ cia dia eia _ fia  lia mia hva W (hia.below hW (Nat.le_refl _)) iia (gia.below hW (Nat.le_refl _)) jia) (fun W hW => frCmp_bad1 bia aia _ cia dia eia _ fia bib aib _ cib dib eib _ fib lia mia hva W (hia.below hW (Nat.le_refl _)) iia (gia.below hW (Nat.le_refl _)) jia)
          (fun W hW => frCmp_bad2 bib aib _ cib dib eib _ fib bia aia _ cia dia eia _ fia lib mib hvb lia mia hva W (hib.below hW (Nat.le_refl _)) iib (gib.below hW (Nat.le_refl _)) jib (hia.below hW (Nat.le_refl _)) iia (gia.below hW (Nat.le_refl _)) jia)
set_option maxRecDepth 100000 in
theorem fracWrong_lifted (os : Os) (started : os.Started) (H : Type) (enc : TypeId × Value → H) :
    ReturnsInHanded {} Tryz.checked os 14 .any (Rows.fracWrongSpec.pre6 enc Tryz.prog Tryz.f14 Rows.fracWrongRow.domain false) (Rows.fracWrongSpec.post enc Tryz.prog Tryz.f14 false true false false) := by
  refine returnsInHanded_of_change_sized (C := Tryz.checked) Tryz.ownKnob started (by kernel_rfl) Tryz.func14
    (ChangeSpec.witness6 (enc := enc) (C := Tryz.checked) false ⟨#[], #[.agg #[.bool false, .slice none 0 0, .bool false, .slice none 0 0], .agg #[.bool false, .slice none 0 0, .bool false, .slice none 0 0], .int .i64 0, .int .u8 0], []⟩ 8 (by kernel_rfl) (by kernel_rfl) (by kernel_rfl) (by kernel_rfl)) ?_
  intro W base args ds gs before hval0 hW hcnd hsz0 _
  have hval : ∀ (j : Nat) t v, Tryz.f14.params[j]? = some t → args[j]? = some v → Value.okWide Tryz.prog W .any base t v := hval0
  have hsz : (DataW.weightsEach Tryz.prog (Tryz.f14.params.toList ++ Rows.fracWrongSpec.plain.varTypes Tryz.prog) (ds ++ gs)).all (· ≤ reachBytes) = true := hsz0
  have hW' := hW
  obtain ⟨p, q, hA0, hV, rfl, hfz, hnd⟩ := hW
  have hA : DataW.TrodAll enc Tryz.prog W 0 (fun _ => true) true Tryz.f14.params.toList args.toList ds p := hA0
  rw [Tryz.params14] at hA hval hsz
  obtain ⟨v0, vs0, d0, ds0, p0, q0, hargs, rfl, rfl, h0, r0⟩ := trodAll_cons hA
  obtain ⟨v1, vs1, d1, ds1, p1, q1, rfl, rfl, rfl, h1, r1⟩ := trodAll_cons r0
  obtain ⟨v2, vs2, d2, ds2, p2, q2, rfl, rfl, rfl, h2, r2⟩ := trodAll_cons r1
  obtain ⟨v3, vs3, d3, ds3, p3, q3, rfl, rfl, rfl, h3, r3⟩ := trodAll_cons r2
  obtain ⟨rfl, rfl, rfl⟩ := trodAll_nil r3
  obtain rfl : args = #[v0, v1, v2, v3] := by cases args; simp_all
  obtain ⟨rfl, rfl⟩ := trodVars_none hV
  obtain ⟨b0, s0, l0, b0', s0', l0', rfl, lim0, lm0, lim0', lm0', again0⟩ := open_frac (hval 0 26 _ rfl rfl) h0 (within_of hsz (j := 0) rfl rfl)
  obtain ⟨b1, s1, l1, b1', s1', l1', rfl, lim1, lm1, lim1', lm1', again1⟩ := open_frac (hval 1 26 _ rfl rfl) h1 (within_of hsz (j := 1) rfl rfl)
  obtain ⟨x2, rfl, rfl, rfl, wf2⟩ := open_int Tryz.underlying3 (hval 2 3 v2 rfl rfl) h2
  obtain ⟨x3, rfl, rfl, rfl, wf3⟩ := open_int Tryz.underlying5 (hval 3 5 v3 rfl rfl) h3
  clear hA0 hval0
  simp only [List.append_nil] at hW'
  refine (FracWrong_walk b0 s0 l0 b0' s0' l0' b1 s1 l1 b1' s1' l1' x2 x3 (u8_bd5 wf3) W lim0 lm0 lim0' lm0' lim1 lm1 lim1' lm1').mono fun e W' ⟨he, hb⟩ => ?_
  subst he
  exact ⟨_, rfl, lawPost (pa := _) (pv := []) hW' hb (by simp) (ok_one (by kernel_rfl) rfl (okWide_bool_mk Tryz.underlying4 _)) (fun _ _ _ => (trodAll_cons_mk (shut_bool Tryz.underlying4 _) trodAll_mk0)) (fun sp hsp => (trodAll_cons_mk (again0 W' sp hb (fun q hq => hsp q (by simp only [List.mem_append] at hq ⊢; simp [hq]))) (trodAll_cons_mk (again1 W' sp hb (fun q hq => hsp q (by simp only [List.mem_append] at hq ⊢; simp [hq]))) (trodAll_cons_mk (shut_int Tryz.underlying3 wf2) (trodAll_cons_mk (shut_int Tryz.underlying5 wf3) trodAll_mk0))))) (fun _ _ => rfl)⟩
theorem fracWrong_proved : Rows.FracWrongSaid :=
  OpenClaim.holds_of_wide 14 Tryz.f14 rfl rfl rfl rfl rfl rfl rfl ⟨rfl, rfl, rfl, rfl, rfl⟩ rfl rfl rfl rfl rfl fracWrong_named Tryz.func14 fracWrong_closed fracWrong_inst fracWrong_wrap
    (fun os started H enc _ => fracWrong_lifted os started H enc)
end Go.Proofs.YtnnnhjgmgomlpaaGreat
