/- 'FracLowest' returns true for every two fractions and every three whole numbers, valid or not: with at most 40 limbs in each part, sums, products and differences are valid, Cmp is 0 exactly where the fractions are the same, and a quotient of whole numbers does not depend on a common factor and is what Div returns. No condition. -/
import Derived.ProofKit
import Derived.WalkKit
import Derived.Test.YtnnnhjgmgomlpaaGreatQz1
import Derived.Test.YtnnnhjgmgomlpaaGreatQz2
import Derived.Test.YtnnnhjgmgomlpaaGreatQz3
import Derived.Test.YtnnnhjgmgomlpaaGreatQz4
import Derived.Test.YtnnnhjgmgomlpaaGreatQz5
import Derived.Test.YtnnnhjgmgomlpaaGreatQz6
import Derived.Test.YtnnnhjgmgomlpaaGreatQz7
import Derived.Test.YtnnnhjgmgomlpaaGreatQz8
import Derived.Test.YtnnnhjgmgomlpaaGreatQz9
import Derived.Test.YtnnnhjgmgomlpaaGreatQz10
import Derived.Test.YtnnnhjgmgomlpaaGreatQz11
import Derived.Test.YtnnnhjgmgomlpaaGreatQz12
import Derived.Test.YtnnnhjgmgomlpaaGreatQz13
import Derived.Test.YtnnnhjgmgomlpaaGreatQz14
import Derived.Test.YtnnnhjgmgomlpaaGreatQz15
import Derived.Test.YtnnnhjgmgomlpaaGreatQz16
import Derived.Test.YtnnnhjgmgomlpaaGreatQz17
import Derived.Test.YtnnnhjgmgomlpaaGreatQz18
import Derived.Test.YtnnnhjgmgomlpaaGreatQz19
import Derived.Test.YtnnnhjgmgomlpaaGreatQz20
import Derived.Test.YtnnnhjgmgomlpaaGreatQz21
import Derived.Test.YtnnnhjgmgomlpaaGreatQz22
import Derived.Test.YtnnnhjgmgomlpaaGreatQz23
import Derived.Test.YtnnnhjgmgomlpaaGreatQz24
import Derived.Test.YtnnnhjgmgomlpaaGreatQz25
import Derived.Test.YtnnnhjgmgomlpaaGreatQz26
import Derived.Test.YtnnnhjgmgomlpaaGreatQz27
import Derived.Test.YtnnnhjgmgomlpaaGreatQz28
import Derived.Test.YtnnnhjgmgomlpaaGreatQz29
import Derived.Test.YtnnnhjgmgomlpaaGreatQz30
import Derived.Test.YtnnnhjgmgomlpaaGreatQz31
import Derived.Test.YtnnnhjgmgomlpaaGreatRows
import Derived.Test.YtnnnhjgmgomlpaaGreatQLowest1
import Derived.Test.YtnnnhjgmgomlpaaGreatQLowest2
namespace Go.Proofs.YtnnnhjgmgomlpaaGreat
open Go.ChangeShapes Go.WideShapes Go.ChangeAt Go.RowKit
theorem fracLowest_named : Tryz.pinned.checked.prog.funcNamed Rows.fracLowestRow.func = some 8 := by kernel_rfl
theorem fracLowest_closed : joinedFacts Tryz.pinned.checked.prog 8 Tryz.f8 Rows.fracLowestSpec Rows.fracLowestRow = true := by kernel_rfl
theorem fracLowest_inst : Tryz.f8.isInstance Tryz.pinned.checked.prog Rows.fracLowestRow.origin Rows.fracLowestRow.targs := of_decide_eq_true (by kernel_rfl)
theorem fracLowest_wrap : Tryz.f8.isWrapper Tryz.pinned.checked.prog Rows.fracLowestRow.wrapper Rows.fracLowestRow.mainSum := by unfold Func.isWrapper; first | (rw [if_pos (by decide +kernel)]; kernel_rfl) | (rw [if_neg (by decide +kernel)]; exact ⟨rfl, rfl⟩)
end Go.Proofs.YtnnnhjgmgomlpaaGreat
namespace Go.Proofs.YtnnnhjgmgomlpaaGreat
open Go.ChangeShapes Go.WideShapes Go.ChangeAt Go.RowKit Wh
set_option maxRecDepth 100000 in
set_option maxHeartbeats 4000000 in
theorem FracLowest_skip (bia : Bool) (aia : Option Addr) (kia cia : Nat) (dia : Bool) (eia : Option Addr) (lia mia : Nat) (bib : Bool) (aib : Option Addr) (kib cib : Nat) (dib : Bool) (eib : Option Addr) (lib mib : Nat) (via vib vjn vjd vjf : Bool) (bjn : Bool) (ajn : Option Addr) (kjn cjn : Nat) (bjd : Bool) (ajd : Option Addr) (kjd cjd : Nat) (bjf : Bool) (ajf : Option Addr) (kjf cjf : Nat) (w : World) (hvia : ∀ W, Below w.heap.size w W → Calls Tryz.prog 51 #[.agg #[.bool bia, .slice aia kia cia, .bool dia, .slice eia lia mia]] W fun e w' => e = .returned (.bool via) ∧ Below W.heap.size W w') (hvib : ∀ W, Below w.heap.size w W → Calls Tryz.prog 51 #[.agg #[.bool bib, .slice aib kib cib, .bool dib, .slice eib lib mib]] W fun e w' => e = .returned (.bool vib) ∧ Below W.heap.size W w') (hvjn : ∀ W, Below w.heap.size w W → Calls Tryz.prog 50 #[.agg #[.bool bjn, .slice ajn kjn cjn]] W fun e w' => e = .returned (.bool vjn) ∧ Below W.heap.size W w') (hvjd : ∀ W, Below w.heap.size w W → Calls Tryz.prog 50 #[.agg #[.bool bjd, .slice ajd kjd cjd]] W fun e w' => e = .returned (.bool vjd) ∧ Below W.heap.size W w') (hvjf : ∀ W, Below w.heap.size w W → Calls Tryz.prog 50 #[.agg #[.bool bjf, .slice ajf kjf cjf]] W fun e w' => e = .returned (.bool vjf) ∧ Below W.heap.size W w') (hu : ((((((decide (kia ≤ 40) && decide (lia ≤ 40)) && via) && ((decide (kib ≤ 40) && decide (lib ≤ 40)) && vib)) && (decide (kjn ≤ 40) && vjn)) && (decide (kjd ≤ 40) && vjd)) && (decide (kjf ≤ 40) && vjf)) = false) :
    Calls Tryz.prog 8 #[.agg #[.bool bia, .slice aia kia cia, .bool dia, .slice eia lia mia], .agg #[.bool bib, .slice aib kib cib, .bool dib, .slice eib lib mib], .agg #[.bool bjn, .slice ajn kjn cjn], .agg #[.bool bjd, .slice ajd kjd cjd], .agg #[.bool bjf, .slice ajf kjf cjf]] w fun e w' => e = .returned (.bool true) ∧ Below w.heap.size w w' := by
  have hU := fun B W (hW : Below w.heap.size w W) y0 y1 y2 y3 y4 y5 y6 y7 => usable2_any B bia aia kia cia dia eia lia mia bib aib kib cib dib eib lib mib via vib W y0 y1 y2 y3 y4 y5 y6 y7 (fun V hV => hvia V (hW.trans (hV.mono hW.size))) (fun V hV => hvib V (hW.trans (hV.mono hW.size)))
  obtain ⟨u1, eu1⟩ : ∃ u, u = (((decide (kia ≤ 40) && decide (lia ≤ 40)) && via) && ((decide (kib ≤ 40) && decide (lib ≤ 40)) && vib)) := ⟨_, rfl⟩
  rw [← eu1] at hU hu
  have HU := Lib.hid hU
  clear hU eu1 hvia hvib
  have HVjn := Lib.hid hvjn
  clear hvjn
  have HVjd := Lib.hid hvjd
  clear hvjd
  have HVjf := Lib.hid hvjf
  clear hvjf
  have HX := Lib.hid hu
  clear hu
  have hB := Below.refl w.heap.size w
  obtain ⟨al, xia, hN⟩ := mk hB #[.bool bia, .slice aia kia cia, .bool dia, .slice eia lia mia] 26
  replace hB := hN; clear al hN
  try simp only [World.size_alloc] at xia
  obtain ⟨al, xib, hN⟩ := mk hB #[.bool bib, .slice aib kib cib, .bool dib, .slice eib lib mib] 26
  replace xia := xia.on al; replace hB := hN; clear al hN
  try simp only [World.size_alloc] at xib
  obtain ⟨al, xjn, hN⟩ := mk hB #[.bool bjn, .slice ajn kjn cjn] 24
  replace xia := xia.on al; replace xib := xib.on al; replace hB := hN; clear al hN
  try simp only [World.size_alloc] at xjn
  obtain ⟨al, xjd, hN⟩ := mk hB #[.bool bjd, .slice ajd kjd cjd] 24
  replace xia := xia.on al; replace xib := xib.on al; replace xjn := xjn.on al; replace hB := hN; clear al hN
  try simp only [World.size_alloc] at xjd
  obtain ⟨al, xjf, hN⟩ := mk hB #[.bool bjf, .slice ajf kjf cjf] 24
  replace xia := xia.on al; replace xib := xib.on al; replace xjn := xjn.on al; replace xjd := xjd.on al; replace hB := hN; clear al hN
  try simp only [World.size_alloc] at xjf
  go_enter Tryz.func8, Tryz.ntmps8
  go_wp2_with fail
  refine (law2_awake_any _).mono ?_
  rintro e w1 ⟨rfl, hb⟩
  replace xia := xia.on hb; replace xib := xib.on hb; replace xjn := xjn.on hb; replace xjd := xjd.on hb; replace xjf := xjf.on hb
  have hz1 := hb.size
  try simp at hz1
  replace hB := hB.trans (hb.mono hB.size); clear hb
  have pia := xia.all4
  have pib := xib.all4
  have pjn := xjn.all2
  have pjd := xjd.all2
  have pjf := xjf.all2
  have ltia := xia.lt
  have ltib := xib.lt
  have ltjn := xjn.lt
  have ltjd := xjd.lt
  have ltjf := xjf.lt
  go_wp2_with fail
  clear ltia ltib ltjn ltjd ltjf pia pib pjn pjd pjf
  have hb := ((Below.refl w1.heap.size w1).alloc (Nat.le_refl _) (.cells #[.bool bia, .slice aia kia cia, .bool dia, .slice eia lia mia, .bool bib, .slice aib kib cib, .bool dib, .slice eib lib mib] 26))
  have xrow : Bk _ w1.heap.size #[.bool bia, .slice aia kia cia, .bool dia, .slice eia lia mia, .bool bib, .slice aib kib cib, .bool dib, .slice eib lib mib] 26 := (Bk.new w1 #[.bool bia, .slice aia kia cia, .bool dia, .slice eia lia mia, .bool bib, .slice aib kib cib, .bool dib, .slice eib lib mib] 26)
  replace xia := xia.on hb; replace xib := xib.on hb; replace xjn := xjn.on hb; replace xjd := xjd.on hb; replace xjf := xjf.on hb; replace hB := hB.trans (hb.mono hB.size); clear hb
  have rw0 := xrow.cell 0
  have rw1 := xrow.cell 1
  have rw2 := xrow.cell 2
  have rw3 := xrow.cell 3
  have rw4 := xrow.cell 4
  have rw5 := xrow.cell 5
  have rw6 := xrow.cell 6
  have rw7 := xrow.cell 7
  simp only [List.getElem?_toArray, List.getElem?_cons_zero, List.getElem?_cons_succ] at rw0 rw1 rw2 rw3 rw4 rw5 rw6 rw7
  refine (HU.out _ _ hB rw0 rw1 rw2 rw3 rw4 rw5 rw6 rw7).mono ?_
  rintro e w2 ⟨rfl, hb⟩
  clear xrow rw0 rw1 rw2 rw3 rw4 rw5 rw6 rw7; replace xia := xia.on hb; replace xib := xib.on hb; replace xjn := xjn.on hb; replace xjd := xjd.on hb; replace xjf := xjf.on hb; replace hB := hB.trans (hb.mono hB.size); clear hb xia xib
  cases u1 with
  | false => go_wp2; go_ret; exact ⟨rfl, hB⟩
  | true =>
    by_cases tjn : 40 < (kjn : Int)
    · skip
      have pjn := xjn.all2
      have pjd := xjd.all2
      have pjf := xjf.all2
      have ltjn := xjn.lt
      have ltjd := xjd.lt
      have ltjf := xjf.lt
      go_wp2
      go_ret
      exact ⟨rfl, hB⟩
    by_cases tjd : 40 < (kjd : Int)
    · skip
      have pjn := xjn.all2
      have pjd := xjd.all2
      have pjf := xjf.all2
      have ltjn := xjn.lt
      have ltjd := xjd.lt
      have ltjf := xjf.lt
      go_wp2
      go_ret
      exact ⟨rfl, hB⟩
    by_cases tjf : 40 < (kjf : Int)
    · skip
      have pjn := xjn.all2
      have pjd := xjd.all2
      have pjf := xjf.all2
      have ltjn := xjn.lt
      have ltjd := xjd.lt
      have ltjf := xjf.lt
      go_wp2
      go_ret
      exact ⟨rfl, hB⟩
    have pjn := xjn.all2
    have pjd := xjd.all2
    have pjf := xjf.all2
    have ltjn := xjn.lt
    have ltjd := xjd.lt
    have ltjf := xjf.lt
    go_wp2_with fail
    clear ltjn ltjd ltjf pjn pjd pjf
    refine (HVjn.out _ hB).mono ?_
    rintro e w3 ⟨rfl, hb⟩
    replace xjn := xjn.on hb; replace xjd := xjd.on hb; replace xjf := xjf.on hb
    have hz3 := hb.size
    try simp at hz3
    replace hB := hB.trans (hb.mono hB.size); clear hb
    cases vjn with
    | false => go_wp2; go_ret; exact ⟨rfl, hB⟩
    | true =>
      have pjn := xjn.all2
      have pjd := xjd.all2
      have pjf := xjf.all2
      have ltjn := xjn.lt
      have ltjd := xjd.lt
      have ltjf := xjf.lt
      go_wp2_with fail
      clear ltjn ltjd ltjf pjn pjd pjf
      refine (HVjd.out _ hB).mono ?_
      rintro e w4 ⟨rfl, hb⟩
      replace xjn := xjn.on hb; replace xjd := xjd.on hb; replace xjf := xjf.on hb
      have hz4 := hb.size
      try simp at hz4
      replace hB := hB.trans (hb.mono hB.size); clear hb
      cases vjd with
      | false => go_wp2; go_ret; exact ⟨rfl, hB⟩
      | true =>
        have pjn := xjn.all2
        have pjd := xjd.all2
        have pjf := xjf.all2
        have ltjn := xjn.lt
        have ltjd := xjd.lt
        have ltjf := xjf.lt
        go_wp2_with fail
        clear ltjn ltjd ltjf pjn pjd pjf
        refine (HVjf.out _ hB).mono ?_
        rintro e w5 ⟨rfl, hb⟩
        replace xjn := xjn.on hb; replace xjd := xjd.on hb; replace xjf := xjf.on hb
        have hz5 := hb.size
        try simp at hz5
        replace hB := hB.trans (hb.mono hB.size); clear hb
        cases vjf with
        | false => go_wp2; go_ret; exact ⟨rfl, hB⟩
        | true =>
          have hu := HX.out
          exfalso
          have zjn : decide (kjn ≤ 40) = true := by simp only [decide_eq_true_eq]; omega
          have zjd : decide (kjd ≤ 40) = true := by simp only [decide_eq_true_eq]; omega
          have zjf : decide (kjf ≤ 40) = true := by simp only [decide_eq_true_eq]; omega
          rw [zjn, zjd, zjf] at hu
          cases hu
theorem FracLowest_walk (bia : Bool) (sia : Value) (lia : List Nat) (dia : Bool) (tia : Value) (mia : List Nat) (bib : Bool) (sib : Value) (lib : List Nat) (dib : Bool) (tib : Value) (mib : List Nat) (bjn : Bool) (sjn : Value) (ljn : List Nat) (bjd : Bool) (sjd : Value) (ljd : List Nat) (bjf : Bool) (sjf : Value) (ljf : List Nat) (w : World) (hia : Lim w sia lia) (iia : Lm lia) (gia : Lim w tia mia) (jia : Lm mia) (hib : Lim w sib lib) (iib : Lm lib) (gib : Lim w tib mib) (jib : Lm mib) (hjn : Lim w sjn ljn) (ijn : Lm ljn) (hjd : Lim w sjd ljd) (ijd : Lm ljd) (hjf : Lim w sjf ljf) (ijf : Lm ljf) :
    Calls Tryz.prog 8 #[.agg #[.bool bia, sia, .bool dia, tia], .agg #[.bool bib, sib, .bool dib, tib], .agg #[.bool bjn, sjn], .agg #[.bool bjd, sjd], .agg #[.bool bjf, sjf]] w fun e w' => e = .returned (.bool true) ∧ Below w.heap.size w w' := by
  obtain ⟨aia, cia, rfl⟩ := lim_slice hia
  obtain ⟨eia, fia, rfl⟩ := lim_slice gia
  obtain ⟨aib, cib, rfl⟩ := lim_slice hib
  obtain ⟨eib, fib, rfl⟩ := lim_slice gib
  obtain ⟨ajn, cjn, rfl⟩ := lim_slice hjn
  obtain ⟨ajd, cjd, rfl⟩ := lim_slice hjd
  obtain ⟨ajf, cjf, rfl⟩ := lim_slice hjf
  cases hu : ((((((decide (lia.length ≤ 40) && decide (mia.length ≤ 40)) && fvld bia lia dia mia) && ((decide (lib.length ≤ 40) && decide (mib.length ≤ 40)) && fvld bib lib dib mib)) && (decide (ljn.length ≤ 40) && vld bjn ljn)) && (decide (ljd.length ≤ 40) && vld bjd ljd)) && (decide (ljf.length ≤ 40) && vld bjf ljf)) with
  | false => exact FracLowest_skip bia aia _ cia dia eia _ fia bib aib _ cib dib eib _ fib _ _ _ _ _ bjn ajn _ cjn bjd ajd _ cjd bjf ajf _ cjf w (fun W hW => frValid_raw bia aia _ cia lia dia eia _ fia mia W (hia.below hW (Nat.le_refl _)) iia (gia.below hW (Nat.le_refl _)) jia) (fun W hW => frValid_raw bib aib _ cib lib dib eib _ fib mib W (hib.below hW (Nat.le_refl _)) iib (gib.below hW (Nat.le_refl _)) jib) (fun W hW => Valid_any bjn _ ljn W (hjn.below hW (Nat.le_refl _))) (fun W hW => Valid_any bjd _ ljd W (hjd.below hW (Nat.le_refl _))) (fun W hW => Valid_any bjf _ ljf W (hjf.below hW (Nat.le_refl _))) hu
  | true =>
    simp only [Bool.and_eq_true, decide_eq_true_eq] at hu
    obtain ⟨⟨⟨⟨⟨⟨uia, wia⟩, via⟩, ⟨⟨uib, wib⟩, vib⟩⟩, ⟨ujn, vjn⟩⟩, ⟨ujd, vjd⟩⟩, ⟨ujf, vjf⟩⟩ := hu
    obtain ⟨qia, nia, -, -, ria, -, sia⟩ := fra_of_fvld via hia iia gia jia
    have f4ia : Fz 40 40 qia := ⟨by unfold Sz; rw [← ria]; exact uia, by unfold Sz; rw [Int.natAbs_natCast, ← sia]; exact wia⟩
    obtain ⟨qib, nib, -, -, rib, -, sib⟩ := fra_of_fvld vib hib iib gib jib
    have f4ib : Fz 40 40 qib := ⟨by unfold Sz; rw [← rib]; exact uib, by unfold Sz; rw [Int.natAbs_natCast, ← sib]; exact wib⟩
    obtain ⟨zjn, -, ejn, njn⟩ := num_of_vld vjn hjn ijn
    have f4jn : Sz 40 zjn := by unfold Sz; rw [← ejn]; exact ujn
    obtain ⟨zjd, -, ejd, njd⟩ := num_of_vld vjd hjd ijd
    have f4jd : Sz 40 zjd := by unfold Sz; rw [← ejd]; exact ujd
    obtain ⟨zjf, -, ejf, njf⟩ := num_of_vld vjf hjf ijf
    have f4jf : Sz 40 zjf := by unfold Sz; rw [← ejf]; exact ujf
    exact FracLowest_core qia qib f4ia f4ib bia aia _ cia dia eia _ fia bib aib _ cib dib eib _ fib zjn zjd zjf f4jn f4jd f4jf bjn ajn _ cjn bjd ajd _ cjd bjf ajf _ cjf w nia nib njn njd njf
set_option maxRecDepth 100000 in
theorem fracLowest_lifted (os : Os) (started : os.Started) (H : Type) (enc : TypeId × Value → H) :
    ReturnsInHanded {} Tryz.checked os 8 .any (Rows.fracLowestSpec.pre6 enc Tryz.prog Tryz.f8 Rows.fracLowestRow.domain false) (Rows.fracLowestSpec.post enc Tryz.prog Tryz.f8 false true false false) := by
  refine returnsInHanded_of_change_sized (C := Tryz.checked) Tryz.ownKnob started (by kernel_rfl) Tryz.func8
    (ChangeSpec.witness6 (enc := enc) (C := Tryz.checked) false ⟨#[], #[.agg #[.bool false, .slice none 0 0, .bool false, .slice none 0 0], .agg #[.bool false, .slice none 0 0, .bool false, .slice none 0 0], .agg #[.bool false, .slice none 0 0], .agg #[.bool false, .slice none 0 0], .agg #[.bool false, .slice none 0 0]], []⟩ 8 (by kernel_rfl) (by kernel_rfl) (by kernel_rfl) (by kernel_rfl)) ?_
  intro W base args ds gs before hval0 hW hcnd hsz0 _
  have hval : ∀ (j : Nat) t v, Tryz.f8.params[j]? = some t → args[j]? = some v → Value.okWide Tryz.prog W .any base t v := hval0
  have hsz : (DataW.weightsEach Tryz.prog (Tryz.f8.params.toList ++ Rows.fracLowestSpec.plain.varTypes Tryz.prog) (ds ++ gs)).all (· ≤ reachBytes) = true := hsz0
  have hW' := hW
  obtain ⟨p, q, hA0, hV, rfl, hfz, hnd⟩ := hW
  have hA : DataW.TrodAll enc Tryz.prog W 0 (fun _ => true) true Tryz.f8.params.toList args.toList ds p := hA0
  rw [Tryz.params8] at hA hval hsz
  obtain ⟨v0, vs0, d0, ds0, p0, q0, hargs, rfl, rfl, h0, r0⟩ := trodAll_cons hA
  obtain ⟨v1, vs1, d1, ds1, p1, q1, rfl, rfl, rfl, h1, r1⟩ := trodAll_cons r0
  obtain ⟨v2, vs2, d2, ds2, p2, q2, rfl, rfl, rfl, h2, r2⟩ := trodAll_cons r1
  obtain ⟨v3, vs3, d3, ds3, p3, q3, rfl, rfl, rfl, h3, r3⟩ := trodAll_cons r2
  obtain ⟨v4, vs4, d4, ds4, p4, q4, rfl, rfl, rfl, h4, r4⟩ := trodAll_cons r3
  obtain ⟨rfl, rfl, rfl⟩ := trodAll_nil r4
  obtain rfl : args = #[v0, v1, v2, v3, v4] := by cases args; simp_all
  obtain ⟨rfl, rfl⟩ := trodVars_none hV
  obtain ⟨b0, s0, l0, b0', s0', l0', rfl, lim0, lm0, lim0', lm0', again0⟩ := open_frac (hval 0 26 _ rfl rfl) h0 (within_of hsz (j := 0) rfl rfl)
  obtain ⟨b1, s1, l1, b1', s1', l1', rfl, lim1, lm1, lim1', lm1', again1⟩ := open_frac (hval 1 26 _ rfl rfl) h1 (within_of hsz (j := 1) rfl rfl)
  obtain ⟨b2, s2, l2, rfl, lim2, lm2, again2⟩ := open_whole (hval 2 24 _ rfl rfl) h2 (within_of hsz (j := 2) rfl rfl)
  obtain ⟨b3, s3, l3, rfl, lim3, lm3, again3⟩ := open_whole (hval 3 24 _ rfl rfl) h3 (within_of hsz (j := 3) rfl rfl)
  obtain ⟨b4, s4, l4, rfl, lim4, lm4, again4⟩ := open_whole (hval 4 24 _ rfl rfl) h4 (within_of hsz (j := 4) rfl rfl)
  clear hA0 hval0
  simp only [List.append_nil] at hW'
  refine (FracLowest_walk b0 s0 l0 b0' s0' l0' b1 s1 l1 b1' s1' l1' b2 s2 l2 b3 s3 l3 b4 s4 l4 W lim0 lm0 lim0' lm0' lim1 lm1 lim1' lm1' lim2 lm2 lim3 lm3 lim4 lm4).mono fun e W' ⟨he, hb⟩ => ?_
  subst he
  exact ⟨_, rfl, lawPost (pa := _) (pv := []) hW' hb (by simp) (ok_one (by kernel_rfl) rfl (okWide_bool_mk Tryz.underlying4 _)) (fun _ _ _ => (trodAll_cons_mk (shut_bool Tryz.underlying4 _) trodAll_mk0)) (fun sp hsp => (trodAll_cons_mk (again0 W' sp hb (fun q hq => hsp q (by simp only [List.mem_append] at hq ⊢; simp [hq]))) (trodAll_cons_mk (again1 W' sp hb (fun q hq => hsp q (by simp only [List.mem_append] at hq ⊢; simp [hq]))) (trodAll_cons_mk (again2 W' sp hb (fun q hq => hsp q (by simp only [List.mem_append] at hq ⊢; simp [hq]))) (trodAll_cons_mk (again3 W' sp hb (fun q hq => hsp q (by simp only [List.mem_append] at hq ⊢; simp [hq]))) (trodAll_cons_mk (again4 W' sp hb (fun q hq => hsp q (by simp only [List.mem_append] at hq ⊢; simp [hq]))) trodAll_mk0)))))) (fun _ _ => rfl)⟩
theorem fracLowest_proved : Rows.FracLowestSaid :=
  OpenClaim.holds_of_wide 8 Tryz.f8 rfl rfl rfl rfl rfl rfl rfl ⟨rfl, rfl, rfl, rfl, rfl⟩ rfl rfl rfl rfl rfl fracLowest_named Tryz.func8 fracLowest_closed fracLowest_inst fracLowest_wrap
    (fun os started H enc _ => fracLowest_lifted os started H enc)
end Go.Proofs.YtnnnhjgmgomlpaaGreat
