/- 'FracPowers' returns true for every two fractions, valid or not, and every two ints: for those that are valid and have at most 8 limbs in each part the powers obey the laws of powers (the exponents taken to their remainders by 6). No condition. -/
import Derived.ProofKit
import Derived.WalkKit
import Derived.Test.YthlclegajldphaaGreatQz1
import Derived.Test.YthlclegajldphaaGreatQz2
import Derived.Test.YthlclegajldphaaGreatQz3
import Derived.Test.YthlclegajldphaaGreatQz4
import Derived.Test.YthlclegajldphaaGreatQz5
import Derived.Test.YthlclegajldphaaGreatQz6
import Derived.Test.YthlclegajldphaaGreatQz7
import Derived.Test.YthlclegajldphaaGreatQz8
import Derived.Test.YthlclegajldphaaGreatQz9
import Derived.Test.YthlclegajldphaaGreatQz10
import Derived.Test.YthlclegajldphaaGreatQz11
import Derived.Test.YthlclegajldphaaGreatQz12
import Derived.Test.YthlclegajldphaaGreatQz13
import Derived.Test.YthlclegajldphaaGreatQz14
import Derived.Test.YthlclegajldphaaGreatQz15
import Derived.Test.YthlclegajldphaaGreatQz16
import Derived.Test.YthlclegajldphaaGreatQz17
import Derived.Test.YthlclegajldphaaGreatQz18
import Derived.Test.YthlclegajldphaaGreatQz19
import Derived.Test.YthlclegajldphaaGreatQz20
import Derived.Test.YthlclegajldphaaGreatQz21
import Derived.Test.YthlclegajldphaaGreatQz22
import Derived.Test.YthlclegajldphaaGreatQz23
import Derived.Test.YthlclegajldphaaGreatQz24
import Derived.Test.YthlclegajldphaaGreatQz25
import Derived.Test.YthlclegajldphaaGreatQz26
import Derived.Test.YthlclegajldphaaGreatQz27
import Derived.Test.YthlclegajldphaaGreatQz28
import Derived.Test.YthlclegajldphaaGreatRows
import Derived.Test.YthlclegajldphaaGreatQPowers1
import Derived.Test.YthlclegajldphaaGreatQPowers2
namespace Go.Proofs.YthlclegajldphaaGreat
open Go.ChangeShapes Go.WideShapes Go.ChangeAt Go.RowKit
theorem fracPowers_named : Tryz.pinned.checked.prog.funcNamed Rows.fracPowersRow.func = some 13 := by kernel_rfl
theorem fracPowers_closed : joinedFacts Tryz.pinned.checked.prog 13 Tryz.f13 Rows.fracPowersSpec Rows.fracPowersRow = true := by kernel_rfl
theorem fracPowers_inst : Tryz.f13.isInstance Tryz.pinned.checked.prog Rows.fracPowersRow.origin Rows.fracPowersRow.targs := of_decide_eq_true (by kernel_rfl)
theorem fracPowers_wrap : Tryz.f13.isWrapper Tryz.pinned.checked.prog Rows.fracPowersRow.wrapper Rows.fracPowersRow.mainSum := by unfold Func.isWrapper; first | (rw [if_pos (by decide +kernel)]; kernel_rfl) | (rw [if_neg (by decide +kernel)]; exact ⟨rfl, rfl⟩)
end Go.Proofs.YthlclegajldphaaGreat
namespace Go.Proofs.YthlclegajldphaaGreat
open Go.ChangeShapes Go.WideShapes Go.ChangeAt Go.RowKit Wh
set_option maxRecDepth 100000 in
set_option maxHeartbeats 4000000 in
theorem FracPowers_skip (bia : Bool) (aia : Option Addr) (kia cia : Nat) (dia : Bool) (eia : Option Addr) (lia mia : Nat) (bib : Bool) (aib : Option Addr) (kib cib : Nat) (dib : Bool) (eib : Option Addr) (lib mib : Nat) (via vib : Bool) (m : Int) (n : Int) (w : World) (hvia : ∀ W, Below w.heap.size w W → Calls Tryz.prog 51 #[.agg #[.bool bia, .slice aia kia cia, .bool dia, .slice eia lia mia]] W fun e w' => e = .returned (.bool via) ∧ Below W.heap.size W w') (hvib : ∀ W, Below w.heap.size w W → Calls Tryz.prog 51 #[.agg #[.bool bib, .slice aib kib cib, .bool dib, .slice eib lib mib]] W fun e w' => e = .returned (.bool vib) ∧ Below W.heap.size W w') (hu : ((((decide (kia ≤ 40) && decide (lia ≤ 40)) && via) && ((decide (kib ≤ 40) && decide (lib ≤ 40)) && vib)) && ((decide (kia ≤ 8) && decide (lia ≤ 8)) && (decide (kib ≤ 8) && decide (lib ≤ 8)))) = false) :
    Calls Tryz.prog 13 #[.agg #[.bool bia, .slice aia kia cia, .bool dia, .slice eia lia mia], .agg #[.bool bib, .slice aib kib cib, .bool dib, .slice eib lib mib], .int .i64 m, .int .i64 n] w fun e w' => e = .returned (.bool true) ∧ Below w.heap.size w w' := by
  have hU := fun B W (hW : Below w.heap.size w W) y0 y1 y2 y3 y4 y5 y6 y7 => usable2_any B bia aia kia cia dia eia lia mia bib aib kib cib dib eib lib mib via vib W y0 y1 y2 y3 y4 y5 y6 y7 (fun V hV => hvia V (hW.trans (hV.mono hW.size))) (fun V hV => hvib V (hW.trans (hV.mono hW.size)))
  have hU2 := fun B W y0 y1 y2 y3 y4 y5 y6 y7 => short2_any 8 B bia aia kia cia dia eia lia mia bib aib kib cib dib eib lib mib W y0 y1 y2 y3 y4 y5 y6 y7
  obtain ⟨u1, eu1⟩ : ∃ u, u = (((decide (kia ≤ 40) && decide (lia ≤ 40)) && via) && ((decide (kib ≤ 40) && decide (lib ≤ 40)) && vib)) := ⟨_, rfl⟩
  obtain ⟨u2, eu2⟩ : ∃ u, u = ((decide (kia ≤ 8) && decide (lia ≤ 8)) && (decide (kib ≤ 8) && decide (lib ≤ 8))) := ⟨_, rfl⟩
  rw [← eu1] at hU hu
  rw [← eu2] at hU2 hu
  have HU := Lib.hid hU
  have HU2 := Lib.hid hU2
  clear hU hU2 eu1 eu2 hvia hvib
  have hB := Below.refl w.heap.size w
  obtain ⟨al, xia, hN⟩ := mk hB #[.bool bia, .slice aia kia cia, .bool dia, .slice eia lia mia] 26
  replace hB := hN
  clear al hN
  try simp only [World.size_alloc] at xia
  obtain ⟨al, xib, hN⟩ := mk hB #[.bool bib, .slice aib kib cib, .bool dib, .slice eib lib mib] 26
  replace xia := xia.on al
  replace hB := hN
  clear al hN
  try simp only [World.size_alloc] at xib
  go_enter Tryz.func13, Tryz.ntmps13
  go_wp2_with fail
  refine (law2_awake_any _).mono ?_
  rintro e w1 ⟨rfl, hb⟩
  replace xia := xia.on hb
  replace xib := xib.on hb
  have hz1 := hb.size
  try simp at hz1
  replace hB := hB.trans (hb.mono hB.size)
  clear hb
  have pia := xia.all4
  have pib := xib.all4
  have ltia := xia.lt
  have ltib := xib.lt
  go_wp2_with fail
  clear ltia
  clear ltib
  clear pia pib
  have hb := ((Below.refl w1.heap.size w1).alloc (Nat.le_refl _) (.cells #[.bool bia, .slice aia kia cia, .bool dia, .slice eia lia mia, .bool bib, .slice aib kib cib, .bool dib, .slice eib lib mib] 26))
  have xrow : Bk _ w1.heap.size #[.bool bia, .slice aia kia cia, .bool dia, .slice eia lia mia, .bool bib, .slice aib kib cib, .bool dib, .slice eib lib mib] 26 := (Bk.new w1 #[.bool bia, .slice aia kia cia, .bool dia, .slice eia lia mia, .bool bib, .slice aib kib cib, .bool dib, .slice eib lib mib] 26)
  replace xia := xia.on hb
  replace xib := xib.on hb
  replace hB := hB.trans (hb.mono hB.size)
  clear hb
  have rw0 := xrow.cell 0
  have rw1 := xrow.cell 1
  have rw2 := xrow.cell 2
  have rw3 := xrow.cell 3
  have rw4 := xrow.cell 4
  have rw5 := xrow.cell 5
  have rw6 := xrow.cell 6
  have rw7 := xrow.cell 7
  simp only [List.getElem?_toArray, List.getElem?_cons_zero, List.getElem?_cons_succ] at rw0 rw1 rw2 rw3 rw4 rw5 rw6 rw7
  refine (HU.out _ _ hB rw0 rw1 rw2 rw3 rw4 rw5 rw6 rw7).mono ?_
  rintro e w2 ⟨rfl, hb⟩
  clear xrow rw0 rw1 rw2 rw3 rw4 rw5 rw6 rw7
  replace xia := xia.on hb
  replace xib := xib.on hb
  replace hB := hB.trans (hb.mono hB.size)
  clear hb
  cases u1 with
  | false => go_wp2; go_ret; exact ⟨rfl, hB⟩
  | true =>
    cases u2 with
    | true => cases hu
    | false =>
      have pia := xia.all4
      have pib := xib.all4
      have ltia := xia.lt
      have ltib := xib.lt
      go_wp2_with fail
      clear ltia
      clear ltib
      clear pia pib
      have hb := ((Below.refl w2.heap.size w2).alloc (Nat.le_refl _) (.cells #[.bool bia, .slice aia kia cia, .bool dia, .slice eia lia mia, .bool bib, .slice aib kib cib, .bool dib, .slice eib lib mib] 26))
      have xrow : Bk _ w2.heap.size #[.bool bia, .slice aia kia cia, .bool dia, .slice eia lia mia, .bool bib, .slice aib kib cib, .bool dib, .slice eib lib mib] 26 := (Bk.new w2 #[.bool bia, .slice aia kia cia, .bool dia, .slice eia lia mia, .bool bib, .slice aib kib cib, .bool dib, .slice eib lib mib] 26)
      replace xia := xia.on hb
      replace xib := xib.on hb
      replace hB := hB.trans (hb.mono hB.size)
      clear hb
      have rw0 := xrow.cell 0
      have rw1 := xrow.cell 1
      have rw2 := xrow.cell 2
      have rw3 := xrow.cell 3
      have rw4 := xrow.cell 4
      have rw5 := xrow.cell 5
      have rw6 := xrow.cell 6
      have rw7 := xrow.cell 7
      simp only [List.getElem?_toArray, List.getElem?_cons_zero, List.getElem?_cons_succ] at rw0 rw1 rw2 rw3 rw4 rw5 rw6 rw7
      refine (HU2.out _ _ rw0 rw1 rw2 rw3 rw4 rw5 rw6 rw7).mono ?_
      rintro e w3 ⟨rfl, hb⟩
      clear xrow rw0 rw1 rw2 rw3 rw4 rw5 rw6 rw7
      replace xia := xia.on hb
      replace xib := xib.on hb
      replace hB := hB.trans (hb.mono hB.size)
      clear hb
      go_wp2
      go_ret
      exact ⟨rfl, hB⟩
theorem FracPowers_walk (bia : Bool) (sia : Value) (lia : List Nat) (dia : Bool) (tia : Value) (mia : List Nat) (bib : Bool) (sib : Value) (lib : List Nat) (dib : Bool) (tib : Value) (mib : List Nat) (m : Int) (n : Int) (w : World) (hia : Lim w sia lia) (iia : Lm lia) (gia : Lim w tia mia) (jia : Lm mia) (hib : Lim w sib lib) (iib : Lm lib) (gib : Lim w tib mib) (jib : Lm mib) :
    Calls Tryz.prog 13 #[.agg #[.bool bia, sia, .bool dia, tia], .agg #[.bool bib, sib, .bool dib, tib], .int .i64 m, .int .i64 n] w fun e w' => e = .returned (.bool true) ∧ Below w.heap.size w w' := by
  obtain ⟨aia, cia, rfl⟩ := lim_slice hia
  obtain ⟨eia, fia, rfl⟩ := lim_slice gia
  obtain ⟨aib, cib, rfl⟩ := lim_slice hib
  obtain ⟨eib, fib, rfl⟩ := lim_slice gib
  cases hu : ((((decide (lia.length ≤ 40) && decide (mia.length ≤ 40)) && fvld bia lia dia mia) && ((decide (lib.length ≤ 40) && decide (mib.length ≤ 40)) && fvld bib lib dib mib)) && ((decide (lia.length ≤ 8) && decide (mia.length ≤ 8)) && (decide (lib.length ≤ 8) && decide (mib.length ≤ 8)))) with
  | false => exact FracPowers_skip bia aia _ cia dia eia _ fia bib aib _ cib dib eib _ fib _ _ m n w (fun W hW => frValid_raw bia aia _ cia lia dia eia _ fia mia W (hia.below hW (Nat.le_refl _)) iia (gia.below hW (Nat.le_refl _)) jia) (fun W hW => frValid_raw bib aib _ cib lib dib eib _ fib mib W (hib.below hW (Nat.le_refl _)) iib (gib.below hW (Nat.le_refl _)) jib) hu
  | true =>
    simp only [Bool.and_eq_true, decide_eq_true_eq] at hu
    obtain ⟨⟨⟨⟨uia, wia⟩, via⟩, ⟨⟨uib, wib⟩, vib⟩⟩, ⟨⟨yia, zia⟩, ⟨yib, zib⟩⟩⟩ := hu
    obtain ⟨qia, nia, -, -, ria, -, sia⟩ := fra_of_fvld via hia iia gia jia
    have f4ia : Fz 8 8 qia := ⟨by unfold Sz; rw [← ria]; exact yia, by unfold Sz; rw [Int.natAbs_natCast, ← sia]; exact zia⟩
    obtain ⟨qib, nib, -, -, rib, -, sib⟩ := fra_of_fvld vib hib iib gib jib
    have f4ib : Fz 8 8 qib := ⟨by unfold Sz; rw [← rib]; exact yib, by unfold Sz; rw [Int.natAbs_natCast, ← sib]; exact zib⟩
    exact FracPowers_core qia qib f4ia f4ib bia aia _ cia dia eia _ fia bib aib _ cib dib eib _ fib m n w nia nib
set_option maxRecDepth 100000 in
theorem fracPowers_lifted (os : Os) (started : os.Started) (H : Type) (enc : TypeId × Value → H) :
    ReturnsInHanded {} Tryz.checked os 13 .any (Rows.fracPowersSpec.pre6 enc Tryz.prog Tryz.f13 Rows.fracPowersRow.domain false) (Rows.fracPowersSpec.post enc Tryz.prog Tryz.f13 false true false false) := by
  refine returnsInHanded_of_change_sized (C := Tryz.checked) Tryz.ownKnob started (by kernel_rfl) Tryz.func13
    (ChangeSpec.witness6 (enc := enc) (C := Tryz.checked) false ⟨#[], #[.agg #[.bool false, .slice none 0 0, .bool false, .slice none 0 0], .agg #[.bool false, .slice none 0 0, .bool false, .slice none 0 0], .int .i64 0, .int .i64 0], []⟩ 8 (by kernel_rfl) (by kernel_rfl) (by kernel_rfl) (by kernel_rfl)) ?_
  intro W base args ds gs before hval0 hW hcnd hsz0 _
  have hval : ∀ (j : Nat) t v, Tryz.f13.params[j]? = some t → args[j]? = some v → Value.okWide Tryz.prog W .any base t v := hval0
  have hsz : (DataW.weightsEach Tryz.prog (Tryz.f13.params.toList ++ Rows.fracPowersSpec.plain.varTypes Tryz.prog) (ds ++ gs)).all (· ≤ reachBytes) = true := hsz0
  have hW' := hW
  obtain ⟨p, q, hA0, hV, rfl, hfz, hnd⟩ := hW
  have hA : DataW.TrodAll enc Tryz.prog W 0 (fun _ => true) true Tryz.f13.params.toList args.toList ds p := hA0
  rw [Tryz.params13] at hA hval hsz
  obtain ⟨v0, vs0, d0, ds0, p0, q0, hargs, rfl, rfl, h0, r0⟩ := trodAll_cons hA
  obtain ⟨v1, vs1, d1, ds1, p1, q1, rfl, rfl, rfl, h1, r1⟩ := trodAll_cons r0
  obtain ⟨v2, vs2, d2, ds2, p2, q2, rfl, rfl, rfl, h2, r2⟩ := trodAll_cons r1
  obtain ⟨v3, vs3, d3, ds3, p3, q3, rfl, rfl, rfl, h3, r3⟩ := trodAll_cons r2
  obtain ⟨rfl, rfl, rfl⟩ := trodAll_nil r3
  obtain rfl : args = #[v0, v1, v2, v3] := by cases args; simp_all
  obtain ⟨rfl, rfl⟩ := trodVars_none hV
  obtain ⟨b0, s0, l0, b0', s0', l0', rfl, lim0, lm0, lim0', lm0', again0⟩ := open_frac (hval 0 26 _ rfl rfl) h0 (within_of hsz (j := 0) rfl rfl)
  obtain ⟨b1, s1, l1, b1', s1', l1', rfl, lim1, lm1, lim1', lm1', again1⟩ := open_frac (hval 1 26 _ rfl rfl) h1 (within_of hsz (j := 1) rfl rfl)
  obtain ⟨x2, rfl, rfl, rfl, wf2⟩ := open_int Tryz.underlying3 (hval 2 3 v2 rfl rfl) h2
  obtain ⟨x3, rfl, rfl, rfl, wf3⟩ := open_int Tryz.underlying3 (hval 3 3 v3 rfl rfl) h3
  clear hA0 hval0
  simp only [List.append_nil] at hW'
  refine (FracPowers_walk b0 s0 l0 b0' s0' l0' b1 s1 l1 b1' s1' l1' x2 x3 W lim0 lm0 lim0' lm0' lim1 lm1 lim1' lm1').mono fun e W' ⟨he, hb⟩ => ?_
  subst he
  exact ⟨_, rfl, lawPost (pa := _) (pv := []) hW' hb (by simp) (ok_one (by kernel_rfl) rfl (okWide_bool_mk Tryz.underlying4 _)) (fun _ _ _ => (trodAll_cons_mk (shut_bool Tryz.underlying4 _) trodAll_mk0)) (fun sp hsp => (trodAll_cons_mk (again0 W' sp hb (fun q hq => hsp q (by simp only [List.mem_append] at hq ⊢; simp [hq]))) (trodAll_cons_mk (again1 W' sp hb (fun q hq => hsp q (by simp only [List.mem_append] at hq ⊢; simp [hq]))) (trodAll_cons_mk (shut_int Tryz.underlying3 wf2) (trodAll_cons_mk (shut_int Tryz.underlying3 wf3) trodAll_mk0))))) (fun _ _ => rfl)⟩
theorem fracPowers_proved : Rows.FracPowersSaid :=
  OpenClaim.holds_of_wide 13 Tryz.f13 rfl rfl rfl rfl rfl rfl rfl ⟨rfl, rfl, rfl, rfl, rfl⟩ rfl rfl rfl rfl rfl fracPowers_named Tryz.func13 fracPowers_closed fracPowers_inst fracPowers_wrap
    (fun os started H enc _ => fracPowers_lifted os started H enc)
end Go.Proofs.YthlclegajldphaaGreat
