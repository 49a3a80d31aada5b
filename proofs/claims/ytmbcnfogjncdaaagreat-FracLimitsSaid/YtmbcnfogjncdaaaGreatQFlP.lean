/- FracLimits: for all numbers n, k and all bases, the law returns true. -/
import Derived.ProofKit
import Derived.Test.YtmbcnfogjncdaaaGreatRows
import Derived.WalkKit
import Derived.Test.YtmbcnfogjncdaaaGreatQFl13
import Derived.Test.YtmbcnfogjncdaaaGreatQFl33
set_option maxRecDepth 100000
namespace Go.Proofs.YtmbcnfogjncdaaaGreat
open Go.ChangeShapes Go.WideShapes Go.ChangeAt Go.RowKit
theorem fracLimits_named : Tryz.pinned.checked.prog.funcNamed Rows.fracLimitsRow.func = some 6 := by kernel_rfl
theorem fracLimits_closed : joinedFacts Tryz.pinned.checked.prog 6 Tryz.f6 Rows.fracLimitsSpec Rows.fracLimitsRow = true := by kernel_rfl
theorem fracLimits_inst : Tryz.f6.isInstance Tryz.pinned.checked.prog Rows.fracLimitsRow.origin Rows.fracLimitsRow.targs := of_decide_eq_true (by kernel_rfl)
theorem fracLimits_wrap : Tryz.f6.isWrapper Tryz.pinned.checked.prog Rows.fracLimitsRow.wrapper Rows.fracLimitsRow.mainSum := by unfold Func.isWrapper; first | (rw [if_pos (by decide +kernel)]; kernel_rfl) | (rw [if_neg (by decide +kernel)]; exact ⟨rfl, rfl⟩)
end Go.Proofs.YtmbcnfogjncdaaaGreat
namespace Go.Proofs.YtmbcnfogjncdaaaGreat
open Go.ChangeShapes Go.WideShapes Go.ChangeAt Go.RowKit Wh
theorem u8_bds {n : Int} (h : (Lit.int .u8 n).wf = true) : 0 ≤ n ∧ n < 256 := by
 have e1 : IntKind.min .u8 = 0 := by decide
 have e2 : IntKind.max .u8 = 255 := by decide
 simp only [Lit.wf, Bool.and_eq_true, decide_eq_true_eq, e1, e2] at h
 omega
theorem i64_bds {n : Int} (h : (Lit.int .i64 n).wf = true) : -9223372036854775808 ≤ n ∧ n ≤ 9223372036854775807 := by
 have e1 : IntKind.min .i64 = -9223372036854775808 := by decide
 have e2 : IntKind.max .i64 = 9223372036854775807 := by decide
 simp only [Lit.wf, Bool.and_eq_true, decide_eq_true_eq, e1, e2] at h
 omega
theorem fl_one (z : Int) : Rat.divInt z 1 = (z : Rat) := by
 obtain ⟨h1, h2⟩ := Fq.num_den_of (n := z) (d := 1) (by decide) (by simp)
 exact Fq.ext (by rw [h1, Rat.num_intCast]) (by rw [Rat.den_intCast]; omega)
theorem flim_base (r : Nat) (hr : r < 14) : ∃ q : Rat, q ≠ 0 ∧ dig q.num.natAbs ≠ [1] ∧ Fz 256 256 q ∧ Rat.divInt (2 + (r : Int)) 1 = q := by
  have e : Rat.divInt (2 + (r : Int)) 1 = ((2 + (r : Int) : Int) : Rat) := fl_one _
  refine ⟨((2 + (r : Int) : Int) : Rat), ?_, ?_, ?_, e⟩
  · intro h
    have h1 := (Fq.num_zero _).2 h
    rw [Rat.num_intCast] at h1
    omega
  · rw [Rat.num_intCast]
    intro h
    have h1 := congrArg val h
    rw [val_dig] at h1
    simp [val_cons] at h1
    omega
  · exact (Fz.int (n := 1) (Sz.small (by omega))).mono (by decide) (by decide)
theorem rpow_ne {q : Rat} (h : q ≠ 0) (n : Nat) : q ^ n ≠ 0 := by
 intro e
 have h1 := (Fq.num_zero _).2 e
 rw [Rat.num_pow] at h1
 exact absurd h1 (Int.pow_ne_zero fun h2 => h ((Fq.num_zero q).1 h2))
theorem refPow_ans (q : Rat) (sq : Fz 256 256 q) (hq0 : q ≠ 0) (hq1 : dig q.num.natAbs ≠ [1]) (N : Nat) (hN : N < 1100) (va : Value) (w : World) (h : Fra w va q) :
  Calls Tryz.prog 37 #[va, .int .i64 (1 + (N : Int))] w fun e w' => (∃ v c, e = .returned (.tuple #[v, .int .i64 c]) ∧ AnsF w' (fitF (q ^ (1 + N))) 3 v c) ∧ Below w.heap.size w w' := by
 obtain ⟨b, a, k, c, d, e, l, m, rfl⟩ := h.opened
 have e1 : (1 + (N : Int)) = ((1 + N : Nat) : Int) := by omega
 rw [e1]
 exact ref2Pow_up b a k c d e l m q sq hq0 hq1 (1 + N) (by omega) (by omega) w h
theorem frPow_ans (q : Rat) (sq : Fz 256 256 q) (hq0 : q ≠ 0) (N : Nat) (hN : N < 1100) (va : Value) (w : World) (h : Fra w va q) :
  Calls Tryz.prog 39 #[va, .int .i64 (1 + (N : Int))] w fun e w' => (∃ v c, e = .returned (.tuple #[v, .int .i64 c]) ∧ AnsF w' (fitF (q ^ (1 + N))) 3 v c) ∧ Below w.heap.size w w' := by
 obtain ⟨b, a, k, c, d, e, l, m, rfl⟩ := h.opened
 have e1 : (1 + (N : Int)) = ((1 + N : Nat) : Int) := by omega
 rw [e1]
 refine (frPow_any b a k c d e l m q sq ((1 + N : Nat) : Int) (by omega) (by omega) (.inl hq0) w h).mono ?_
 rintro e w' ⟨⟨v, o, rfl, h1, h2⟩, hb⟩
 rw [Rat.zpow_natCast] at h1 h2
 refine ⟨⟨v, o, rfl, ?_⟩, hb⟩
 by_cases hf : Fz 256 256 (q ^ (1 + N))
 · exact .inl ⟨_, fitF_fz hf, (h1 hf).1, (h1 hf).2⟩
 · exact .inr ⟨fitF_not hf, (h2 hf).1, (h2 hf).2⟩
theorem FracLimits_walk (n : Int) (_hn : -9223372036854775808 ≤ n ∧ n ≤ 9223372036854775807) (k : Int) (_hk : -9223372036854775808 ≤ k ∧ k ≤ 9223372036854775807) (x : Int) (hx : 0 ≤ x ∧ x < 256) (y : Int) (hy : 0 ≤ y ∧ y < 256) (w : World) :
    Calls Tryz.prog 6 #[.int .i64 n, .int .i64 k, .int .u8 x, .int .u8 y] w fun e w' => e = .returned (.bool true) ∧ Below w.heap.size w w' := by
  obtain ⟨x, rfl⟩ := Int.eq_ofNat_of_zero_le hx.1
  obtain ⟨y, rfl⟩ := Int.eq_ofNat_of_zero_le hy.1
  obtain ⟨N, hN⟩ : ∃ N : Nat, n % 1100 = (N : Int) := ⟨(n % 1100).toNat, by omega⟩
  obtain ⟨K, hK⟩ : ∃ K : Nat, k % 1100 = (K : Int) := ⟨(k % 1100).toNat, by omega⟩
  have hN2 : N < 1100 := by omega
  have hK2 : K < 1100 := by omega
  have hr1 : x % 14 < 14 := Nat.mod_lt _ (by decide)
  have hr2 : y % 14 < 14 := Nat.mod_lt _ (by decide)
  have tx : (x : Int).tmod 14 = ((x % 14 : Nat) : Int) := by rw [Int.tmod_eq_emod_of_nonneg (by omega)]; omega
  have ty : (y : Int).tmod 14 = ((y % 14 : Nat) : Int) := by rw [Int.tmod_eq_emod_of_nonneg (by omega)]; omega
  obtain ⟨q1, n1, o1, f1, e1⟩ := flim_base (x % 14) hr1
  obtain ⟨q2, n2, o2, f2, e2⟩ := flim_base (y % 14) hr2
  have P1 := fun W => fPick_any n 1100 (by decide) (by decide) W
  have P2 := fun W => fPick_any k 1100 (by decide) (by decide) W
  rw [hN] at P1
  rw [hK] at P2
  have Q1 := fun W => quick_lit (2 + ((x % 14 : Nat) : Int)) 1 q1 e1 (by omega) (by omega) (by decide) (by decide) W
  have Q2 := fun W => quick_lit (2 + ((y % 14 : Nat) : Int)) 1 q2 e2 (by omega) (by omega) (by decide) (by decide) W
  have R1 := fun va W h => refPow_ans q1 f1 n1 o1 N hN2 va W h
  have R2 := fun va W h => refPow_ans q2 f2 n2 o2 K hK2 va W h
  have S1 := fun va W h => frPow_ans q1 f1 n1 N hN2 va W h
  have S2 := fun va W h => frPow_ans q2 f2 n2 K hK2 va W h
  by_cases h1 : Fz 256 256 (q1 ^ (1 + N))
  · by_cases h2 : Fz 256 256 (q2 ^ (1 + K))
    · have m1 := rpow_ne n1 (1 + N)
      have m2 := rpow_ne n2 (1 + K)
      rw [fitF_fz h1] at R1
      rw [fitF_fz h2] at R2
      generalize q1 ^ (1 + N) = P at *
      generalize q2 ^ (1 + K) = Q at *
      have sz0 : Fz 512 512 (P / Q) := Fz.div h1 h2 m2
      have sz1 : Fz 512 512 (Q / P) := Fz.div h2 h1 m1
      have st : Fz 1 1 (Rat.divInt 1 3) := Fz.made (Sz.small (by decide)) (Sz.small (by decide)) (by decide)
      refine FracLimits_fit n k x y N K (x % 14) (y % 14) hN2 hK2 hr1 hr2 (by omega) (by omega) q1 q2 tx ty P1 P2 Q1 Q2 P Q (P / Q) (Q / P) (P / Q + Rat.divInt 1 3) (Rat.divInt 1 3) (fitF (P / Q + Q / P)) (fitF (P / Q + (P / Q + Rat.divInt 1 3))) (fitF (P / Q * (Q / P))) (fitF (P / Q * (P / Q + Rat.divInt 1 3)))
        (fun va W h => (R1 va W h).mono ?_) (fun va W h => (R2 va W h).mono ?_)
        (fun va vb W h g => ref2Over_num va vb P Q (h1.mono (by decide) (by decide)) (h2.mono (by decide) (by decide)) m2 W h g)
        (fun va vb W h g => ref2Over_num va vb Q P (h2.mono (by decide) (by decide)) (h1.mono (by decide) (by decide)) m1 W h g)
        (fun W => quick_lit 1 3 _ rfl (by decide) (by decide) (by decide) (by decide) W)
        (fun va vb W h g => ref2Plus_num va vb _ _ (sz0.mono (by decide) (by decide)) (st.mono (by decide) (by decide)) W h g)
        (fun a b => ⟨fun va vb W h g => frAdd_ans va vb _ _ a b W h g, fun va vb W h g => ref2Add_ans va vb _ _ a b W h g⟩)
        (fun a b => ⟨fun va vb W h g => frAdd_ans va vb _ _ a b W h g, fun va vb W h g => ref2Add_ans va vb _ _ a b W h g⟩)
        (fun a b => ⟨fun va vb W h g => frMul_ans va vb _ _ a b W h g, fun va vb W h g => ref2Mul_ans va vb _ _ a b W h g⟩)
        (fun a b => ⟨fun va vb W h g => frMul_ans va vb _ _ a b W h g, fun va vb W h g => ref2Mul_ans va vb _ _ a b W h g⟩) w
      all_goals
        rintro e w' ⟨⟨v, c, rfl, ha⟩, hb⟩
        rcases ha with ⟨z, hz, rfl, hv⟩ | ⟨hz, -, -⟩
        · cases hz; exact ⟨⟨v, rfl, hv⟩, hb⟩
        · cases hz
    · rw [fitF_not h2] at R2 S2
      rw [fitF_fz h1] at R1 S1
      refine FracLimits_longB n k x y N K (x % 14) (y % 14) hN2 hK2 hr1 hr2 (by omega) (by omega) q1 q2 tx ty P1 P2 Q1 Q2 _ _ (fun va W h => (R1 va W h).mono ?_) (fun va W h => (R2 va W h).mono ?_) S1 S2 w
      · rintro e w' ⟨⟨v, c, rfl, ha⟩, hb⟩
        rcases ha with ⟨z, hz, rfl, hv⟩ | ⟨hz, -, -⟩
        · exact ⟨⟨v, rfl, .inl ⟨z, hz, rfl, hv⟩⟩, hb⟩
        · cases hz
      · rintro e w' ⟨⟨v, c, rfl, ha⟩, hb⟩
        rcases ha with ⟨z, hz, -, -⟩ | ⟨hz, rfl, hv⟩
        · cases hz
        · exact ⟨⟨v, rfl, .inr ⟨hz, rfl, hv⟩⟩, hb⟩
  · rw [fitF_not h1] at R1 S1
    refine FracLimits_longA n k x y N K (x % 14) (y % 14) hN2 hK2 hr1 hr2 (by omega) (by omega) q1 q2 tx ty P1 P2 Q1 Q2 _ _ (fun va W h => (R1 va W h).mono ?_) R2 S1 S2 w
    rintro e w' ⟨⟨v, c, rfl, ha⟩, hb⟩
    rcases ha with ⟨z, hz, -, -⟩ | ⟨hz, rfl, hv⟩
    · cases hz
    · exact ⟨⟨v, rfl, .inr ⟨hz, rfl, hv⟩⟩, hb⟩
theorem fracLimits_lifted (os : Os) (started : os.Started) (H : Type) (enc : TypeId × Value → H) :
    ReturnsInHanded {} Tryz.checked os 6 .any (Rows.fracLimitsSpec.pre6 enc Tryz.prog Tryz.f6 Rows.fracLimitsRow.domain false) (Rows.fracLimitsSpec.post enc Tryz.prog Tryz.f6 false true false false) := by
  refine returnsInHanded_of_change_sized (C := Tryz.checked) Tryz.ownKnob started (by kernel_rfl) Tryz.func6
    (ChangeSpec.witness6 (enc := enc) (C := Tryz.checked) false ⟨#[], #[.int .i64 0, .int .i64 0, .int .u8 0, .int .u8 0], []⟩ 8 (by kernel_rfl) (by kernel_rfl) (by kernel_rfl) (by kernel_rfl)) ?_
  intro W base args ds gs before hval0 hW hcnd hsz0 _
  have hval : ∀ (j : Nat) t v, Tryz.f6.params[j]? = some t → args[j]? = some v → Value.okWide Tryz.prog W .any base t v := hval0
  have hW' := hW
  obtain ⟨p, q, hA0, hV, rfl, hfz, hnd⟩ := hW
  have hA : DataW.TrodAll enc Tryz.prog W 0 (fun _ => true) true Tryz.f6.params.toList args.toList ds p := hA0
  rw [Tryz.params6] at hA hval
  obtain ⟨v0, vs0, d0, ds0, p0, q0, hargs, rfl, rfl, h0, r0⟩ := trodAll_cons hA
  obtain ⟨v1, vs1, d1, ds1, p1, q1, rfl, rfl, rfl, h1, r1⟩ := trodAll_cons r0
  obtain ⟨v2, vs2, d2, ds2, p2, q2, rfl, rfl, rfl, h2, r2⟩ := trodAll_cons r1
  obtain ⟨v3, vs3, d3, ds3, p3, q3, rfl, rfl, rfl, h3, r3⟩ := trodAll_cons r2
  obtain ⟨rfl, rfl, rfl⟩ := trodAll_nil r3
  obtain rfl : args = #[v0, v1, v2, v3] := by cases args; simp_all
  obtain ⟨rfl, rfl⟩ := trodVars_none hV
  obtain ⟨x0, rfl, rfl, rfl, wf0⟩ := open_int Tryz.underlying3 (hval 0 3 v0 rfl rfl) h0
  obtain ⟨x1, rfl, rfl, rfl, wf1⟩ := open_int Tryz.underlying3 (hval 1 3 v1 rfl rfl) h1
  obtain ⟨x2, rfl, rfl, rfl, wf2⟩ := open_int Tryz.underlying5 (hval 2 5 v2 rfl rfl) h2
  obtain ⟨x3, rfl, rfl, rfl, wf3⟩ := open_int Tryz.underlying5 (hval 3 5 v3 rfl rfl) h3
  clear hA0 hval0
  simp only [List.append_nil] at hW'
  refine (FracLimits_walk x0 (i64_bds wf0) x1 (i64_bds wf1) x2 (u8_bds wf2) x3 (u8_bds wf3) W).mono fun e W' ⟨he, hb⟩ => ?_
  subst he
  exact ⟨_, rfl, lawPost (pa := []) (pv := []) hW' hb (by simp) (ok_one (by kernel_rfl) rfl (okWide_bool_mk Tryz.underlying4 _)) (fun _ _ _ => (trodAll_cons_mk (shut_bool Tryz.underlying4 _) trodAll_mk0)) (fun sp hsp => (trodAll_cons_mk (shut_int Tryz.underlying3 wf0) (trodAll_cons_mk (shut_int Tryz.underlying3 wf1) (trodAll_cons_mk (shut_int Tryz.underlying5 wf2) (trodAll_cons_mk (shut_int Tryz.underlying5 wf3) trodAll_mk0))))) (fun _ _ => rfl)⟩
theorem fracLimits_proved : Rows.FracLimitsSaid :=
 OpenClaim.holds_of_wide 6 Tryz.f6 rfl rfl rfl rfl rfl rfl rfl ⟨rfl, rfl, rfl, rfl, rfl⟩ rfl rfl rfl rfl rfl fracLimits_named Tryz.func6 fracLimits_closed fracLimits_inst fracLimits_wrap
  (fun os started H enc _ => fracLimits_lifted os started H enc)
end Go.Proofs.YtmbcnfogjncdaaaGreat
