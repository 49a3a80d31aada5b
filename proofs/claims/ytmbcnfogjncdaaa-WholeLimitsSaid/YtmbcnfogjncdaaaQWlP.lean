/- WholeLimits: for all numbers n, k, every limb and every sign, the law returns true. -/
import Derived.ProofKit
import Derived.Test.YtmbcnfogjncdaaaRows
import Derived.WalkKit
import Derived.Test.YtmbcnfogjncdaaaQWl15
import Derived.Test.YtmbcnfogjncdaaaQWl21
set_option maxRecDepth 100000
namespace Go.Proofs.Ytmbcnfogjncdaaa
open Go.ChangeShapes Go.WideShapes Go.ChangeAt Go.RowKit
theorem wholeLimits_named : Try.pinned.checked.prog.funcNamed Rows.wholeLimitsRow.func = some 3 := by kernel_rfl
theorem wholeLimits_closed : joinedFacts Try.pinned.checked.prog 3 Try.f3 Rows.wholeLimitsSpec Rows.wholeLimitsRow = true := by kernel_rfl
theorem wholeLimits_inst : Try.f3.isInstance Try.pinned.checked.prog Rows.wholeLimitsRow.origin Rows.wholeLimitsRow.targs := of_decide_eq_true (by kernel_rfl)
theorem wholeLimits_wrap : Try.f3.isWrapper Try.pinned.checked.prog Rows.wholeLimitsRow.wrapper Rows.wholeLimitsRow.mainSum := by unfold Func.isWrapper; first | (rw [if_pos (by decide +kernel)]; kernel_rfl) | (rw [if_neg (by decide +kernel)]; exact ⟨rfl, rfl⟩)
end Go.Proofs.Ytmbcnfogjncdaaa
namespace Go.Proofs.Ytmbcnfogjncdaaa
open Go.ChangeShapes Go.WideShapes Go.ChangeAt Go.RowKit Wh
theorem u16_bds {n : Int} (h : (Lit.int .u16 n).wf = true) : 0 ≤ n ∧ n < 65536 := by
 have e1 : IntKind.min .u16 = 0 := by decide
 have e2 : IntKind.max .u16 = 65535 := by decide
 simp only [Lit.wf, Bool.and_eq_true, decide_eq_true_eq, e1, e2] at h
 omega
theorem i64_bds {n : Int} (h : (Lit.int .i64 n).wf = true) : -9223372036854775808 ≤ n ∧ n ≤ 9223372036854775807 := by
 have e1 : IntKind.min .i64 = -9223372036854775808 := by decide
 have e2 : IntKind.max .i64 = 9223372036854775807 := by decide
 simp only [Lit.wf, Bool.and_eq_true, decide_eq_true_eq, e1, e2] at h
 omega
theorem WholeLimits_walk (n : Int) (_hn : -9223372036854775808 ≤ n ∧ n ≤ 9223372036854775807) (k : Int) (_hk : -9223372036854775808 ≤ k ∧ k ≤ 9223372036854775807) (x : Int) (hx : 0 ≤ x ∧ x < 65536) (g : Bool) (w : World) :
  Calls Try.prog 3 #[.int .i64 n, .int .i64 k, .int .u16 x, .bool g] w fun e w' => e = .returned (.bool true) ∧ Below w.heap.size w w' := by
 obtain ⟨d, rfl⟩ := Int.eq_ofNat_of_zero_le hx.1
 exact WholeLimits_any n k d (by omega) g w
theorem wholeLimits_lifted (os : Os) (started : os.Started) (H : Type) (enc : TypeId × Value → H) :
    ReturnsInHanded {} Try.checked os 3 .any (Rows.wholeLimitsSpec.pre6 enc Try.prog Try.f3 Rows.wholeLimitsRow.domain false) (Rows.wholeLimitsSpec.post enc Try.prog Try.f3 false true false false) := by
  refine returnsInHanded_of_change_sized (C := Try.checked) Try.ownKnob started (by kernel_rfl) Try.func3
    (ChangeSpec.witness6 (enc := enc) (C := Try.checked) false ⟨#[], #[.int .i64 0, .int .i64 0, .int .u16 0, .bool false], []⟩ 8 (by kernel_rfl) (by kernel_rfl) (by kernel_rfl) (by kernel_rfl)) ?_
  intro W base args ds gs before hval0 hW hcnd hsz0 _
  have hval : ∀ (j : Nat) t v, Try.f3.params[j]? = some t → args[j]? = some v → Value.okWide Try.prog W .any base t v := hval0
  have hW' := hW
  obtain ⟨p, q, hA0, hV, rfl, hfz, hnd⟩ := hW
  have hA : DataW.TrodAll enc Try.prog W 0 (fun _ => true) true Try.f3.params.toList args.toList ds p := hA0
  rw [Try.params3] at hA hval
  obtain ⟨v0, vs0, d0, ds0, p0, q0, hargs, rfl, rfl, h0, r0⟩ := trodAll_cons hA
  obtain ⟨v1, vs1, d1, ds1, p1, q1, rfl, rfl, rfl, h1, r1⟩ := trodAll_cons r0
  obtain ⟨v2, vs2, d2, ds2, p2, q2, rfl, rfl, rfl, h2, r2⟩ := trodAll_cons r1
  obtain ⟨v3, vs3, d3, ds3, p3, q3, rfl, rfl, rfl, h3, r3⟩ := trodAll_cons r2
  obtain ⟨rfl, rfl, rfl⟩ := trodAll_nil r3
  obtain rfl : args = #[v0, v1, v2, v3] := by cases args; simp_all
  obtain ⟨rfl, rfl⟩ := trodVars_none hV
  obtain ⟨x0, rfl, rfl, rfl, wf0⟩ := open_int Try.underlying3 (hval 0 3 v0 rfl rfl) h0
  obtain ⟨x1, rfl, rfl, rfl, wf1⟩ := open_int Try.underlying3 (hval 1 3 v1 rfl rfl) h1
  obtain ⟨x2, rfl, rfl, rfl, wf2⟩ := open_int Try.underlying22 (hval 2 22 v2 rfl rfl) h2
  obtain ⟨x3, rfl, rfl, rfl⟩ := open_bool Try.underlying4 (hval 3 4 v3 rfl rfl) h3
  clear hA0 hval0
  simp only [List.append_nil] at hW'
  refine (WholeLimits_walk x0 (i64_bds wf0) x1 (i64_bds wf1) x2 (u16_bds wf2) x3 W).mono fun e W' ⟨he, hb⟩ => ?_
  subst he
  exact ⟨_, rfl, lawPost (pa := []) (pv := []) hW' hb (by simp) (ok_one (by kernel_rfl) rfl (okWide_bool_mk Try.underlying4 _)) (fun _ _ _ => (trodAll_cons_mk (shut_bool Try.underlying4 _) trodAll_mk0)) (fun sp hsp => (trodAll_cons_mk (shut_int Try.underlying3 wf0) (trodAll_cons_mk (shut_int Try.underlying3 wf1) (trodAll_cons_mk (shut_int Try.underlying22 wf2) (trodAll_cons_mk (shut_bool Try.underlying4 _) trodAll_mk0))))) (fun _ _ => rfl)⟩
theorem wholeLimits_proved : Rows.WholeLimitsSaid :=
 OpenClaim.holds_of_wide 3 Try.f3 rfl rfl rfl rfl rfl rfl rfl ⟨rfl, rfl, rfl, rfl, rfl⟩ rfl rfl rfl rfl rfl wholeLimits_named Try.func3 wholeLimits_closed wholeLimits_inst wholeLimits_wrap
  (fun os started H enc _ => wholeLimits_lifted os started H enc)
end Go.Proofs.Ytmbcnfogjncdaaa
