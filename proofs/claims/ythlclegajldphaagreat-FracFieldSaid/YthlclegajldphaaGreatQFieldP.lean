/- 'FracField' returns true for every three fractions, valid or not: those that are valid and have at most 40 limbs in each part form a field under Add, Sub, Mul, Div and Neg. No condition. -/
import Derived.ProofKit
import Derived.WalkKit
import Derived.Test.YthlclegajldphaaGreatQz1
import Derived.Test.YthlclegajldphaaGreatQz2
import Derived.Test.YthlclegajldphaaGreatQz3
import Derived.Test.YthlclegajldphaaGreatQz4
import Derived.Test.YthlclegajldphaaGreatQz5
import Derived.Test.YthlclegajldphaaGreatQz6
import Derived.Test.YthlclegajldphaaGreatQz7
import Derived.Test.YthlclegajldphaaGreatQz8
import Derived.Test.YthlclegajldphaaGreatQz9
import Derived.Test.YthlclegajldphaaGreatQz10
import Derived.Test.YthlclegajldphaaGreatQz11
import Derived.Test.YthlclegajldphaaGreatQz12
import Derived.Test.YthlclegajldphaaGreatQz13
import Derived.Test.YthlclegajldphaaGreatQz14
import Derived.Test.YthlclegajldphaaGreatQz15
import Derived.Test.YthlclegajldphaaGreatQz16
import Derived.Test.YthlclegajldphaaGreatQz17
import Derived.Test.YthlclegajldphaaGreatQz18
import Derived.Test.YthlclegajldphaaGreatQz19
import Derived.Test.YthlclegajldphaaGreatQz20
import Derived.Test.YthlclegajldphaaGreatQz21
import Derived.Test.YthlclegajldphaaGreatQz22
import Derived.Test.YthlclegajldphaaGreatQz23
import Derived.Test.YthlclegajldphaaGreatQz24
import Derived.Test.YthlclegajldphaaGreatQz25
import Derived.Test.YthlclegajldphaaGreatQz26
import Derived.Test.YthlclegajldphaaGreatQz27
import Derived.Test.YthlclegajldphaaGreatQz28
import Derived.Test.YthlclegajldphaaGreatRows
import Derived.Test.YthlclegajldphaaGreatQField1
namespace Go.Proofs.YthlclegajldphaaGreat
open Go.ChangeShapes Go.WideShapes Go.ChangeAt Go.RowKit
theorem fracField_named : Tryz.pinned.checked.prog.funcNamed Rows.fracFieldRow.func = some 7 := by kernel_rfl
theorem fracField_closed : joinedFacts Tryz.pinned.checked.prog 7 Tryz.f7 Rows.fracFieldSpec Rows.fracFieldRow = true := by kernel_rfl
theorem fracField_inst : Tryz.f7.isInstance Tryz.pinned.checked.prog Rows.fracFieldRow.origin Rows.fracFieldRow.targs := of_decide_eq_true (by kernel_rfl)
theorem fracField_wrap : Tryz.f7.isWrapper Tryz.pinned.checked.prog Rows.fracFieldRow.wrapper Rows.fracFieldRow.mainSum := by unfold Func.isWrapper; first | (rw [if_pos (by decide +kernel)]; kernel_rfl) | (rw [if_neg (by decide +kernel)]; exact ⟨rfl, rfl⟩)
end Go.Proofs.YthlclegajldphaaGreat
namespace Go.Proofs.YthlclegajldphaaGreat
open Go.ChangeShapes Go.WideShapes Go.ChangeAt Go.RowKit Wh
set_option maxRecDepth 100000 in
set_option maxHeartbeats 4000000 in
theorem FracField_skip (bia : Bool) (aia : Option Addr) (kia cia : Nat) (dia : Bool) (eia : Option Addr) (lia mia : Nat) (bib : Bool) (aib : Option Addr) (kib cib : Nat) (dib : Bool) (eib : Option Addr) (lib mib : Nat) (bic : Bool) (aic : Option Addr) (kic cic : Nat) (dic : Bool) (eic : Option Addr) (lic mic : Nat) (via vib vic : Bool) (w : World) (hvia : ∀ W, Below w.heap.size w W → Calls Tryz.prog 51 #[.agg #[.bool bia, .slice aia kia cia, .bool dia, .slice eia lia mia]] W fun e w' => e = .returned (.bool via) ∧ Below W.heap.size W w') (hvib : ∀ W, Below w.heap.size w W → Calls Tryz.prog 51 #[.agg #[.bool bib, .slice aib kib cib, .bool dib, .slice eib lib mib]] W fun e w' => e = .returned (.bool vib) ∧ Below W.heap.size W w') (hvic : ∀ W, Below w.heap.size w W → Calls Tryz.prog 51 #[.agg #[.bool bic, .slice aic kic cic, .bool dic, .slice eic lic mic]] W fun e w' => e = .returned (.bool vic) ∧ Below W.heap.size W w') (hu : (((decide (kia ≤ 40) && decide (lia ≤ 40)) && via) && ((decide (kib ≤ 40) && decide (lib ≤ 40)) && vib) && ((decide (kic ≤ 40) && decide (lic ≤ 40)) && vic)) = false) :
    Calls Tryz.prog 7 #[.agg #[.bool bia, .slice aia kia cia, .bool dia, .slice eia lia mia], .agg #[.bool bib, .slice aib kib cib, .bool dib, .slice eib lib mib], .agg #[.bool bic, .slice aic kic cic, .bool dic, .slice eic lic mic]] w fun e w' => e = .returned (.bool true) ∧ Below w.heap.size w w' := by
  have hU := fun B W (hW : Below w.heap.size w W) y0 y1 y2 y3 y4 y5 y6 y7 y8 y9 y10 y11 => usable3_any B bia aia kia cia dia eia lia mia bib aib kib cib dib eib lib mib bic aic kic cic dic eic lic mic via vib vic W y0 y1 y2 y3 y4 y5 y6 y7 y8 y9 y10 y11 (fun V hV => hvia V (hW.trans (hV.mono hW.size))) (fun V hV => hvib V (hW.trans (hV.mono hW.size))) (fun V hV => hvic V (hW.trans (hV.mono hW.size)))
  rw [hu] at hU
  have HU := Lib.hid hU
  clear hU hu hvia hvib hvic
  have hB := Below.refl w.heap.size w
  obtain ⟨al, xia, hN⟩ := mk hB #[.bool bia, .slice aia kia cia, .bool dia, .slice eia lia mia] 26
  replace hB := hN
  clear al hN
  try simp only [World.size_alloc] at xia
  obtain ⟨al, xib, hN⟩ := mk hB #[.bool bib, .slice aib kib cib, .bool dib, .slice eib lib mib] 26
  replace xia := xia.on al
  replace hB := hN
  clear al hN
  try simp only [World.size_alloc] at xib
  obtain ⟨al, xic, hN⟩ := mk hB #[.bool bic, .slice aic kic cic, .bool dic, .slice eic lic mic] 26
  replace xia := xia.on al
  replace xib := xib.on al
  replace hB := hN
  clear al hN
  try simp only [World.size_alloc] at xic
  go_enter Tryz.func7, Tryz.ntmps7
  go_wp2_with fail
  refine (law2_awake_any _).mono ?_
  rintro e w1 ⟨rfl, hb⟩
  replace xia := xia.on hb
  replace xib := xib.on hb
  replace xic := xic.on hb
  have hz1 := hb.size
  try simp at hz1
  replace hB := hB.trans (hb.mono hB.size)
  clear hb
  have pia := xia.all4
  have pib := xib.all4
  have pic := xic.all4
  have ltia := xia.lt
  have ltib := xib.lt
  have ltic := xic.lt
  go_wp2_with fail
  clear ltia
  clear ltib
  clear ltic
  clear pia pib pic
  have hb := ((Below.refl w1.heap.size w1).alloc (Nat.le_refl _) (.cells #[.bool bia, .slice aia kia cia, .bool dia, .slice eia lia mia, .bool bib, .slice aib kib cib, .bool dib, .slice eib lib mib, .bool bic, .slice aic kic cic, .bool dic, .slice eic lic mic] 26))
  have xrow : Bk _ w1.heap.size #[.bool bia, .slice aia kia cia, .bool dia, .slice eia lia mia, .bool bib, .slice aib kib cib, .bool dib, .slice eib lib mib, .bool bic, .slice aic kic cic, .bool dic, .slice eic lic mic] 26 := (Bk.new w1 #[.bool bia, .slice aia kia cia, .bool dia, .slice eia lia mia, .bool bib, .slice aib kib cib, .bool dib, .slice eib lib mib, .bool bic, .slice aic kic cic, .bool dic, .slice eic lic mic] 26)
  replace xia := xia.on hb
  replace xib := xib.on hb
  replace xic := xic.on hb
  replace hB := hB.trans (hb.mono hB.size)
  clear hb
  have rw0 := xrow.cell 0
  have rw1 := xrow.cell 1
  have rw2 := xrow.cell 2
  have rw3 := xrow.cell 3
  have rw4 := xrow.cell 4
  have rw5 := xrow.cell 5
  have rw6 := xrow.cell 6
  have rw7 := xrow.cell 7
  have rw8 := xrow.cell 8
  have rw9 := xrow.cell 9
  have rw10 := xrow.cell 10
  have rw11 := xrow.cell 11
  simp only [List.getElem?_toArray, List.getElem?_cons_zero, List.getElem?_cons_succ] at rw0 rw1 rw2 rw3 rw4 rw5 rw6 rw7 rw8 rw9 rw10 rw11
  refine (HU.out _ _ hB rw0 rw1 rw2 rw3 rw4 rw5 rw6 rw7 rw8 rw9 rw10 rw11).mono ?_
  rintro e w2 ⟨rfl, hb⟩
  clear xrow rw0 rw1 rw2 rw3 rw4 rw5 rw6 rw7 rw8 rw9 rw10 rw11
  replace xia := xia.on hb
  replace xib := xib.on hb
  replace xic := xic.on hb
  replace hB := hB.trans (hb.mono hB.size)
  clear hb
  go_wp2
  go_ret
  exact ⟨rfl, hB⟩
theorem FracField_walk (bia : Bool) (sia : Value) (lia : List Nat) (dia : Bool) (tia : Value) (mia : List Nat) (bib : Bool) (sib : Value) (lib : List Nat) (dib : Bool) (tib : Value) (mib : List Nat) (bic : Bool) (sic : Value) (lic : List Nat) (dic : Bool) (tic : Value) (mic : List Nat) (w : World) (hia : Lim w sia lia) (iia : Lm lia) (gia : Lim w tia mia) (jia : Lm mia) (hib : Lim w sib lib) (iib : Lm lib) (gib : Lim w tib mib) (jib : Lm mib) (hic : Lim w sic lic) (iic : Lm lic) (gic : Lim w tic mic) (jic : Lm mic) :
    Calls Tryz.prog 7 #[.agg #[.bool bia, sia, .bool dia, tia], .agg #[.bool bib, sib, .bool dib, tib], .agg #[.bool bic, sic, .bool dic, tic]] w fun e w' => e = .returned (.bool true) ∧ Below w.heap.size w w' := by
  obtain ⟨aia, cia, rfl⟩ := lim_slice hia
  obtain ⟨eia, fia, rfl⟩ := lim_slice gia
  obtain ⟨aib, cib, rfl⟩ := lim_slice hib
  obtain ⟨eib, fib, rfl⟩ := lim_slice gib
  obtain ⟨aic, cic, rfl⟩ := lim_slice hic
  obtain ⟨eic, fic, rfl⟩ := lim_slice gic
  cases hu : (((decide (lia.length ≤ 40) && decide (mia.length ≤ 40)) && fvld bia lia dia mia) && ((decide (lib.length ≤ 40) && decide (mib.length ≤ 40)) && fvld bib lib dib mib) && ((decide (lic.length ≤ 40) && decide (mic.length ≤ 40)) && fvld bic lic dic mic)) with
  | false => exact FracField_skip bia aia _ cia dia eia _ fia bib aib _ cib dib eib _ fib bic aic _ cic dic eic _ fic _ _ _ w (fun W hW => frValid_raw bia aia _ cia lia dia eia _ fia mia W (hia.below hW (Nat.le_refl _)) iia (gia.below hW (Nat.le_refl _)) jia) (fun W hW => frValid_raw bib aib _ cib lib dib eib _ fib mib W (hib.below hW (Nat.le_refl _)) iib (gib.below hW (Nat.le_refl _)) jib) (fun W hW => frValid_raw bic aic _ cic lic dic eic _ fic mic W (hic.below hW (Nat.le_refl _)) iic (gic.below hW (Nat.le_refl _)) jic) hu
  | true =>
    simp only [Bool.and_eq_true, decide_eq_true_eq] at hu
    obtain ⟨⟨⟨⟨uia, wia⟩, via⟩, ⟨⟨uib, wib⟩, vib⟩⟩, ⟨⟨uic, wic⟩, vic⟩⟩ := hu
    obtain ⟨qia, nia, -, -, ria, -, sia⟩ := fra_of_fvld via hia iia gia jia
    have f4ia : Fz 40 40 qia := ⟨by unfold Sz; rw [← ria]; exact uia, by unfold Sz; rw [Int.natAbs_natCast, ← sia]; exact wia⟩
    obtain ⟨qib, nib, -, -, rib, -, sib⟩ := fra_of_fvld vib hib iib gib jib
    have f4ib : Fz 40 40 qib := ⟨by unfold Sz; rw [← rib]; exact uib, by unfold Sz; rw [Int.natAbs_natCast, ← sib]; exact wib⟩
    obtain ⟨qic, nic, -, -, ric, -, sic⟩ := fra_of_fvld vic hic iic gic jic
    have f4ic : Fz 40 40 qic := ⟨by unfold Sz; rw [← ric]; exact uic, by unfold Sz; rw [Int.natAbs_natCast, ← sic]; exact wic⟩
    exact FracField_core qia qib qic f4ia f4ib f4ic bia aia _ cia dia eia _ fia bib aib _ cib dib eib _ fib bic aic _ cic dic eic _ fic w nia nib nic
set_option maxRecDepth 100000 in
theorem fracField_lifted (os : Os) (started : os.Started) (H : Type) (enc : TypeId × Value → H) :
    ReturnsInHanded {} Tryz.checked os 7 .any (Rows.fracFieldSpec.pre6 enc Tryz.prog Tryz.f7 Rows.fracFieldRow.domain false) (Rows.fracFieldSpec.post enc Tryz.prog Tryz.f7 false true false false) := by
  refine returnsInHanded_of_change_sized (C := Tryz.checked) Tryz.ownKnob started (by kernel_rfl) Tryz.func7
    (ChangeSpec.witness6 (enc := enc) (C := Tryz.checked) false ⟨#[], #[.agg #[.bool false, .slice none 0 0, .bool false, .slice none 0 0], .agg #[.bool false, .slice none 0 0, .bool false, .slice none 0 0], .agg #[.bool false, .slice none 0 0, .bool false, .slice none 0 0]], []⟩ 8 (by kernel_rfl) (by kernel_rfl) (by kernel_rfl) (by kernel_rfl)) ?_
  intro W base args ds gs before hval0 hW hcnd hsz0 _
  have hval : ∀ (j : Nat) t v, Tryz.f7.params[j]? = some t → args[j]? = some v → Value.okWide Tryz.prog W .any base t v := hval0
  have hsz : (DataW.weightsEach Tryz.prog (Tryz.f7.params.toList ++ Rows.fracFieldSpec.plain.varTypes Tryz.prog) (ds ++ gs)).all (· ≤ reachBytes) = true := hsz0
  have hW' := hW
  obtain ⟨p, q, hA0, hV, rfl, hfz, hnd⟩ := hW
  have hA : DataW.TrodAll enc Tryz.prog W 0 (fun _ => true) true Tryz.f7.params.toList args.toList ds p := hA0
  rw [Tryz.params7] at hA hval hsz
  obtain ⟨v0, vs0, d0, ds0, p0, q0, hargs, rfl, rfl, h0, r0⟩ := trodAll_cons hA
  obtain ⟨v1, vs1, d1, ds1, p1, q1, rfl, rfl, rfl, h1, r1⟩ := trodAll_cons r0
  obtain ⟨v2, vs2, d2, ds2, p2, q2, rfl, rfl, rfl, h2, r2⟩ := trodAll_cons r1
  obtain ⟨rfl, rfl, rfl⟩ := trodAll_nil r2
  obtain rfl : args = #[v0, v1, v2] := by cases args; simp_all
  obtain ⟨rfl, rfl⟩ := trodVars_none hV
  obtain ⟨b0, s0, l0, b0', s0', l0', rfl, lim0, lm0, lim0', lm0', again0⟩ := open_frac (hval 0 26 _ rfl rfl) h0 (within_of hsz (j := 0) rfl rfl)
  obtain ⟨b1, s1, l1, b1', s1', l1', rfl, lim1, lm1, lim1', lm1', again1⟩ := open_frac (hval 1 26 _ rfl rfl) h1 (within_of hsz (j := 1) rfl rfl)
  obtain ⟨b2, s2, l2, b2', s2', l2', rfl, lim2, lm2, lim2', lm2', again2⟩ := open_frac (hval 2 26 _ rfl rfl) h2 (within_of hsz (j := 2) rfl rfl)
  clear hA0 hval0
  simp only [List.append_nil] at hW'
  refine (FracField_walk b0 s0 l0 b0' s0' l0' b1 s1 l1 b1' s1' l1' b2 s2 l2 b2' s2' l2' W lim0 lm0 lim0' lm0' lim1 lm1 lim1' lm1' lim2 lm2 lim2' lm2').mono fun e W' ⟨he, hb⟩ => ?_
  subst he
  exact ⟨_, rfl, lawPost (pa := _) (pv := []) hW' hb (by simp) (ok_one (by kernel_rfl) rfl (okWide_bool_mk Tryz.underlying4 _)) (fun _ _ _ => (trodAll_cons_mk (shut_bool Tryz.underlying4 _) trodAll_mk0)) (fun sp hsp => (trodAll_cons_mk (again0 W' sp hb (fun q hq => hsp q (by simp only [List.mem_append] at hq ⊢; simp [hq]))) (trodAll_cons_mk (again1 W' sp hb (fun q hq => hsp q (by simp only [List.mem_append] at hq ⊢; simp [hq]))) (trodAll_cons_mk (again2 W' sp hb (fun q hq => hsp q (by simp only [List.mem_append] at hq ⊢; simp [hq]))) trodAll_mk0)))) (fun _ _ => rfl)⟩
theorem fracField_proved : Rows.FracFieldSaid :=
  OpenClaim.holds_of_wide 7 Tryz.f7 rfl rfl rfl rfl rfl rfl rfl ⟨rfl, rfl, rfl, rfl, rfl⟩ rfl rfl rfl rfl rfl fracField_named Tryz.func7 fracField_closed fracField_inst fracField_wrap
    (fun os started H enc _ => fracField_lifted os started H enc)
end Go.Proofs.YthlclegajldphaaGreat
