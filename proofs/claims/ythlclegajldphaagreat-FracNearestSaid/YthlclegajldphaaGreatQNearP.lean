/- 'FracNearest' returns true for every two fractions, valid or not, and every mode: a fraction rounded to a positive unit (both with at most 40 limbs in each part) is a multiple of the unit, as near as the mode asks, and on the side that the mode prescribes. No condition. -/
import Derived.ProofKit
import Derived.WalkKit
import Derived.Test.YthlclegajldphaaGreatQz1
import Derived.Test.YthlclegajldphaaGreatQz2
import Derived.Test.YthlclegajldphaaGreatQz3
import Derived.Test.YthlclegajldphaaGreatQz4
import Derived.Test.YthlclegajldphaaGreatQz5
import Derived.Test.YthlclegajldphaaGreatQz6
import Derived.Test.YthlclegajldphaaGreatQz7
import Derived.Test.YthlclegajldphaaGreatQz8
import Derived.Test.YthlclegajldphaaGreatQz9
import Derived.Test.YthlclegajldphaaGreatQz10
import Derived.Test.YthlclegajldphaaGreatQz11
import Derived.Test.YthlclegajldphaaGreatQz12
import Derived.Test.YthlclegajldphaaGreatQz13
import Derived.Test.YthlclegajldphaaGreatQz14
import Derived.Test.YthlclegajldphaaGreatQz15
import Derived.Test.YthlclegajldphaaGreatQz16
import Derived.Test.YthlclegajldphaaGreatQz17
import Derived.Test.YthlclegajldphaaGreatQz18
import Derived.Test.YthlclegajldphaaGreatQz19
import Derived.Test.YthlclegajldphaaGreatQz20
import Derived.Test.YthlclegajldphaaGreatQz21
import Derived.Test.YthlclegajldphaaGreatQz22
import Derived.Test.YthlclegajldphaaGreatQz23
import Derived.Test.YthlclegajldphaaGreatQz24
import Derived.Test.YthlclegajldphaaGreatQz25
import Derived.Test.YthlclegajldphaaGreatQz26
import Derived.Test.YthlclegajldphaaGreatQz27
import Derived.Test.YthlclegajldphaaGreatQz28
import Derived.Test.YthlclegajldphaaGreatRows
import Derived.Test.YthlclegajldphaaGreatQNear1
import Derived.Test.YthlclegajldphaaGreatQNear2
namespace Go.Proofs.YthlclegajldphaaGreat
open Go.RowKit Wh
set_option maxRecDepth 100000 in
set_option maxHeartbeats 4000000 in
theorem FracNearest_skip (bia : Bool) (aia : Option Addr) (kia cia : Nat) (dia : Bool) (eia : Option Addr) (lia mia : Nat) (bib : Bool) (aib : Option Addr) (kib cib : Nat) (dib : Bool) (eib : Option Addr) (lib mib : Nat) (via vib : Bool) (md : Int) (_hmd : 0 ≤ md ∧ md < 256) (w : World) (hvia : ∀ W, Below w.heap.size w W → Calls Tryz.prog 51 #[.agg #[.bool bia, .slice aia kia cia, .bool dia, .slice eia lia mia]] W fun e w' => e = .returned (.bool via) ∧ Below W.heap.size W w') (hvib : ∀ W, Below w.heap.size w W → Calls Tryz.prog 51 #[.agg #[.bool bib, .slice aib kib cib, .bool dib, .slice eib lib mib]] W fun e w' => e = .returned (.bool vib) ∧ Below W.heap.size W w') (hu : (((decide (kia ≤ 40) && decide (lia ≤ 40)) && via) && ((decide (kib ≤ 40) && decide (lib ≤ 40)) && vib)) = false) :
    Calls Tryz.prog 11 #[.agg #[.bool bia, .slice aia kia cia, .bool dia, .slice eia lia mia], .agg #[.bool bib, .slice aib kib cib, .bool dib, .slice eib lib mib], .int .u8 md] w fun e w' => e = .returned (.bool true) ∧ Below w.heap.size w w' := by
  have H0 := Lib.hid (fun W => frFromInt_lit 0 0 (by decide +kernel) (by decide) (by decide) W)
  have hU := fun B W (hW : Below w.heap.size w W) y0 y1 y2 y3 y4 y5 y6 y7 => usable2_any B bia aia kia cia dia eia lia mia bib aib kib cib dib eib lib mib via vib W y0 y1 y2 y3 y4 y5 y6 y7 (fun V hV => hvia V (hW.trans (hV.mono hW.size))) (fun V hV => hvib V (hW.trans (hV.mono hW.size)))
  rw [hu] at hU
  have HU := Lib.hid hU
  clear hU hu hvia hvib
  have hB := Below.refl w.heap.size w
  obtain ⟨al, xia, hN⟩ := mk hB #[.bool bia, .slice aia kia cia, .bool dia, .slice eia lia mia] 26
  replace hB := hN
  clear al hN
  try simp only [World.size_alloc] at xia
  obtain ⟨al, xib, hN⟩ := mk hB #[.bool bib, .slice aib kib cib, .bool dib, .slice eib lib mib] 26
  replace xia := xia.on al
  replace hB := hN
  clear al hN
  try simp only [World.size_alloc] at xib
  go_enter Tryz.func11, Tryz.ntmps11
  go_wp2_with fail
  refine (law2_awake_any _).mono ?_
  rintro e w1 ⟨rfl, hb⟩
  replace xia := xia.on hb
  replace xib := xib.on hb
  have hz1 := hb.size
  try simp at hz1
  replace hB := hB.trans (hb.mono hB.size)
  clear hb
  have pia := xia.all4
  have pib := xib.all4
  have ltia := xia.lt
  have ltib := xib.lt
  go_wp2_with fail
  clear ltia
  clear ltib
  clear pia pib
  refine (H0.out _).mono ?_
  rintro e w2 ⟨⟨v, rfl, gz⟩, hb⟩
  obtain ⟨bz, az, kz, cz, dz, ez, lz, mz, rfl⟩ := gz.opened
  replace xia := xia.on hb
  replace xib := xib.on hb
  have hz2 := hb.size
  try simp at hz2
  replace hB := hB.trans (hb.mono hB.size)
  clear hb
  have pia := xia.all4
  have pib := xib.all4
  have ltia := xia.lt
  have ltib := xib.lt
  go_wp2_with fail
  clear ltia
  clear ltib
  clear pia pib
  have xq := Bk.new (w2.alloc (.cells #[.bool bz, .slice az kz cz, .bool dz, .slice ez lz mz] 26)) #[.bool bia, .slice aia kia cia, .bool dia, .slice eia lia mia, .bool bib, .slice aib kib cib, .bool dib, .slice eib lib mib] 26
  rw [World.size_alloc] at xq
  have hb := (((Below.refl w2.heap.size w2).alloc (Nat.le_refl _) (.cells #[.bool bz, .slice az kz cz, .bool dz, .slice ez lz mz] 26)).alloc (by simp) (.cells #[.bool bia, .slice aia kia cia, .bool dia, .slice eia lia mia, .bool bib, .slice aib kib cib, .bool dib, .slice eib lib mib] 26))
  have xzero : Bk _ (w2.heap.size) #[.bool bz, .slice az kz cz, .bool dz, .slice ez lz mz] 26 := (Bk.new w2 #[.bool bz, .slice az kz cz, .bool dz, .slice ez lz mz] 26).alloc (.cells #[.bool bia, .slice aia kia cia, .bool dia, .slice eia lia mia, .bool bib, .slice aib kib cib, .bool dib, .slice eib lib mib] 26)
  have xrow : Bk _ (w2.heap.size + 1) #[.bool bia, .slice aia kia cia, .bool dia, .slice eia lia mia, .bool bib, .slice aib kib cib, .bool dib, .slice eib lib mib] 26 := xq
  clear xq
  replace xia := xia.on hb
  replace xib := xib.on hb
  replace gz := gz.on hb
  replace hB := hB.trans (hb.mono hB.size)
  clear hb
  have rw0 := xrow.cell 0
  have rw1 := xrow.cell 1
  have rw2 := xrow.cell 2
  have rw3 := xrow.cell 3
  have rw4 := xrow.cell 4
  have rw5 := xrow.cell 5
  have rw6 := xrow.cell 6
  have rw7 := xrow.cell 7
  simp only [List.getElem?_toArray, List.getElem?_cons_zero, List.getElem?_cons_succ] at rw0 rw1 rw2 rw3 rw4 rw5 rw6 rw7
  refine (HU.out _ _ hB rw0 rw1 rw2 rw3 rw4 rw5 rw6 rw7).mono ?_
  rintro e w3 ⟨rfl, hb⟩
  clear xrow rw0 rw1 rw2 rw3 rw4 rw5 rw6 rw7
  replace xia := xia.on hb
  replace xib := xib.on hb
  replace xzero := xzero.on hb
  replace gz := gz.on hb
  replace hB := hB.trans (hb.mono hB.size)
  clear hb
  go_wp2
  go_ret
  exact ⟨rfl, hB⟩
set_option maxRecDepth 100000 in
set_option maxHeartbeats 8000000 in
theorem FracNearest_low (a u : Rat) (sa : Fz 40 40 a) (su : Fz 40 40 u) (bia : Bool) (aia : Option Addr) (kia cia : Nat) (dia : Bool) (eia : Option Addr) (lia mia : Nat) (bib : Bool) (aib : Option Addr) (kib cib : Nat) (dib : Bool) (eib : Option Addr) (lib mib : Nat) (md : Int) (hu : ¬ 0 < u.num) (w : World) (ia : Fra w (.agg #[.bool bia, .slice aia kia cia, .bool dia, .slice eia lia mia]) a) (ib : Fra w (.agg #[.bool bib, .slice aib kib cib, .bool dib, .slice eib lib mib]) u) :
    Calls Tryz.prog 11 #[.agg #[.bool bia, .slice aia kia cia, .bool dia, .slice eia lia mia], .agg #[.bool bib, .slice aib kib cib, .bool dib, .slice eib lib mib], .int .u8 md] w fun e w' => e = .returned (.bool true) ∧ Below w.heap.size w w' := by
  have H0 := Lib.hid (fun W => frFromInt_lit 0 0 (by decide +kernel) (by decide) (by decide) W)
  have f0 : Fz 256 256 (0 : Rat) := Fz.zero.mono (by decide) (by decide)
  have fu : Fz 256 256 u := su.mono (by decide) (by decide)
  have HP := fun va vb W (h : Fra W va u) (k : Fra W vb 0) => frCmp_lit va vb u 0 _ rfl fu f0 W h k
  have ho : (cmpR u 0 != 1) = true := by
    rw [cmpR_zero_num]
    by_cases g : u.num < 0
    · rw [if_pos g]; rfl
    · rw [if_neg g, if_pos (by omega)]; rfl
  obtain ⟨o, eo⟩ : ∃ o, o = cmpR u 0 := ⟨_, rfl⟩
  rw [← eo] at HP ho
  replace HP := Lib.hid HP
  clear eo f0 fu hu
  have hB := Below.refl w.heap.size w
  obtain ⟨al, xia, hN⟩ := mk hB #[.bool bia, .slice aia kia cia, .bool dia, .slice eia lia mia] 26
  replace ia := ia.on al
  replace ib := ib.on al
  replace hB := hN
  clear al hN
  try simp only [World.size_alloc] at xia
  obtain ⟨al, xib, hN⟩ := mk hB #[.bool bib, .slice aib kib cib, .bool dib, .slice eib lib mib] 26
  replace xia := xia.on al
  replace ia := ia.on al
  replace ib := ib.on al
  replace hB := hN
  clear al hN
  try simp only [World.size_alloc] at xib
  go_enter Tryz.func11, Tryz.ntmps11
  go_wp2_with fail
  refine (law2_awake_any _).mono ?_
  rintro e w1 ⟨rfl, hb⟩
  replace xia := xia.on hb
  replace xib := xib.on hb
  replace ia := ia.on hb
  replace ib := ib.on hb
  have hz1 := hb.size
  try simp at hz1
  replace hB := hB.trans (hb.mono hB.size)
  clear hb
  have pia := xia.all4
  have pib := xib.all4
  have ltia := xia.lt
  have ltib := xib.lt
  go_wp2_with fail
  clear ltia
  clear ltib
  clear pia pib
  refine (H0.out _).mono ?_
  rintro e w2 ⟨⟨v, rfl, gz⟩, hb⟩
  obtain ⟨bz, az, kz, cz, dz, ez, lz, mz, rfl⟩ := gz.opened
  replace xia := xia.on hb
  replace xib := xib.on hb
  replace ia := ia.on hb
  replace ib := ib.on hb
  have hz2 := hb.size
  try simp at hz2
  replace hB := hB.trans (hb.mono hB.size)
  clear hb
  have pia := xia.all4
  have pib := xib.all4
  have ltia := xia.lt
  have ltib := xib.lt
  go_wp2_with fail
  clear ltia
  clear ltib
  clear pia pib
  have xq := Bk.new (w2.alloc (.cells #[.bool bz, .slice az kz cz, .bool dz, .slice ez lz mz] 26)) #[.bool bia, .slice aia kia cia, .bool dia, .slice eia lia mia, .bool bib, .slice aib kib cib, .bool dib, .slice eib lib mib] 26
  rw [World.size_alloc] at xq
  have hb := (((Below.refl w2.heap.size w2).alloc (Nat.le_refl _) (.cells #[.bool bz, .slice az kz cz, .bool dz, .slice ez lz mz] 26)).alloc (by simp) (.cells #[.bool bia, .slice aia kia cia, .bool dia, .slice eia lia mia, .bool bib, .slice aib kib cib, .bool dib, .slice eib lib mib] 26))
  have xzero : Bk _ (w2.heap.size) #[.bool bz, .slice az kz cz, .bool dz, .slice ez lz mz] 26 := (Bk.new w2 #[.bool bz, .slice az kz cz, .bool dz, .slice ez lz mz] 26).alloc (.cells #[.bool bia, .slice aia kia cia, .bool dia, .slice eia lia mia, .bool bib, .slice aib kib cib, .bool dib, .slice eib lib mib] 26)
  have xrow : Bk _ (w2.heap.size + 1) #[.bool bia, .slice aia kia cia, .bool dia, .slice eia lia mia, .bool bib, .slice aib kib cib, .bool dib, .slice eib lib mib] 26 := xq
  clear xq
  replace xia := xia.on hb
  replace xib := xib.on hb
  replace ia := ia.on hb
  replace ib := ib.on hb
  replace gz := gz.on hb
  replace hB := hB.trans (hb.mono hB.size)
  clear hb
  have rw0 := xrow.cell 0
  have rw1 := xrow.cell 1
  have rw2 := xrow.cell 2
  have rw3 := xrow.cell 3
  have rw4 := xrow.cell 4
  have rw5 := xrow.cell 5
  have rw6 := xrow.cell 6
  have rw7 := xrow.cell 7
  simp only [List.getElem?_toArray, List.getElem?_cons_zero, List.getElem?_cons_succ] at rw0 rw1 rw2 rw3 rw4 rw5 rw6 rw7
  refine (usable2_fra (w2.heap.size + 1) a u bia aia kia cia dia eia lia mia bib aib kib cib dib eib lib mib _ rw0 rw1 rw2 rw3 rw4 rw5 rw6 rw7 ia ib sa su).mono ?_
  rintro e w3 ⟨rfl, hb⟩
  clear xrow rw0 rw1 rw2 rw3 rw4 rw5 rw6 rw7
  replace xia := xia.on hb
  replace xib := xib.on hb
  replace xzero := xzero.on hb
  replace ia := ia.on hb
  replace ib := ib.on hb
  replace gz := gz.on hb
  replace hB := hB.trans (hb.mono hB.size)
  clear hb
  have pia := xia.all4
  have pib := xib.all4
  have pzero := xzero.all4
  have ltia := xia.lt
  have ltib := xib.lt
  have ltzero := xzero.lt
  go_wp2_with fail
  clear ltia
  clear ltib
  clear ltzero
  clear pia pib pzero
  refine (HP.out _ _ _ ib gz).mono ?_
  rintro e w4 ⟨rfl, hb⟩
  replace xia := xia.on hb
  replace xib := xib.on hb
  replace xzero := xzero.on hb
  replace ia := ia.on hb
  replace ib := ib.on hb
  replace gz := gz.on hb
  have hz4 := hb.size
  try simp at hz4
  replace hB := hB.trans (hb.mono hB.size)
  clear hb
  go_wp2
  go_ret
  exact ⟨rfl, hB⟩
theorem FracNearest_core (a u : Rat) (sa : Fz 40 40 a) (su : Fz 40 40 u) (bia : Bool) (aia : Option Addr) (kia cia : Nat) (dia : Bool) (eia : Option Addr) (lia mia : Nat) (bib : Bool) (aib : Option Addr) (kib cib : Nat) (dib : Bool) (eib : Option Addr) (lib mib : Nat) (md : Int) (hmd : 0 ≤ md ∧ md < 256) (w : World) (ia : Fra w (.agg #[.bool bia, .slice aia kia cia, .bool dia, .slice eia lia mia]) a) (ib : Fra w (.agg #[.bool bib, .slice aib kib cib, .bool dib, .slice eib lib mib]) u) :
    Calls Tryz.prog 11 #[.agg #[.bool bia, .slice aia kia cia, .bool dia, .slice eia lia mia], .agg #[.bool bib, .slice aib kib cib, .bool dib, .slice eib lib mib], .int .u8 md] w fun e w' => e = .returned (.bool true) ∧ Below w.heap.size w w' := by
  by_cases hu : 0 < u.num
  · have h1 : md.tmod 6 = md % 6 := Int.tmod_eq_emod_of_nonneg hmd.1
    exact FracNearest_more a u sa su bia aia kia cia dia eia lia mia bib aib kib cib dib eib lib mib (md % 6) md h1 (1 + (md % 6).toNat) (by rw [IntKind.wrap_u8]; omega) (by omega) (by omega) hu w ia ib
  · exact FracNearest_low a u sa su bia aia kia cia dia eia lia mia bib aib kib cib dib eib lib mib md hu w ia ib
end Go.Proofs.YthlclegajldphaaGreat
namespace Go.Proofs.YthlclegajldphaaGreat
open Go.ChangeShapes Go.WideShapes Go.ChangeAt Go.RowKit
theorem fracNearest_named : Tryz.pinned.checked.prog.funcNamed Rows.fracNearestRow.func = some 11 := by kernel_rfl
theorem fracNearest_closed : joinedFacts Tryz.pinned.checked.prog 11 Tryz.f11 Rows.fracNearestSpec Rows.fracNearestRow = true := by kernel_rfl
theorem fracNearest_inst : Tryz.f11.isInstance Tryz.pinned.checked.prog Rows.fracNearestRow.origin Rows.fracNearestRow.targs := of_decide_eq_true (by kernel_rfl)
theorem fracNearest_wrap : Tryz.f11.isWrapper Tryz.pinned.checked.prog Rows.fracNearestRow.wrapper Rows.fracNearestRow.mainSum := by unfold Func.isWrapper; first | (rw [if_pos (by decide +kernel)]; kernel_rfl) | (rw [if_neg (by decide +kernel)]; exact ⟨rfl, rfl⟩)
end Go.Proofs.YthlclegajldphaaGreat
namespace Go.Proofs.YthlclegajldphaaGreat
open Go.ChangeShapes Go.WideShapes Go.ChangeAt Go.RowKit Wh
theorem u8_bd5 {n : Int} (h : (Lit.int .u8 n).wf = true) : 0 ≤ n ∧ n < 256 := by
  have e1 : IntKind.min .u8 = 0 := by decide
  have e2 : IntKind.max .u8 = 255 := by decide
  simp only [Lit.wf, Bool.and_eq_true, decide_eq_true_eq, e1, e2] at h
  omega
theorem FracNearest_walk (bia : Bool) (sia : Value) (lia : List Nat) (dia : Bool) (tia : Value) (mia : List Nat) (bib : Bool) (sib : Value) (lib : List Nat) (dib : Bool) (tib : Value) (mib : List Nat) (md : Int) (hmd : 0 ≤ md ∧ md < 256) (w : World) (hia : Lim w sia lia) (iia : Lm lia) (gia : Lim w tia mia) (jia : Lm mia) (hib : Lim w sib lib) (iib : Lm lib) (gib : Lim w tib mib) (jib : Lm mib) :
    Calls Tryz.prog 11 #[.agg #[.bool bia, sia, .bool dia, tia], .agg #[.bool bib, sib, .bool dib, tib], .int .u8 md] w fun e w' => e = .returned (.bool true) ∧ Below w.heap.size w w' := by
  obtain ⟨aia, cia, rfl⟩ := lim_slice hia
  obtain ⟨eia, fia, rfl⟩ := lim_slice gia
  obtain ⟨aib, cib, rfl⟩ := lim_slice hib
  obtain ⟨eib, fib, rfl⟩ := lim_slice gib
  cases hu : (((decide (lia.length ≤ 40) && decide (mia.length ≤ 40)) && fvld bia lia dia mia) && ((decide (lib.length ≤ 40) && decide (mib.length ≤ 40)) && fvld bib lib dib mib)) with
  | false => exact FracNearest_skip bia aia _ cia dia eia _ fia bib aib _ cib dib eib _ fib _ _ md hmd w (fun W hW => frValid_raw bia aia _ cia lia dia eia _ fia mia W (hia.below hW (Nat.le_refl _)) iia (gia.below hW (Nat.le_refl _)) jia) (fun W hW => frValid_raw bib aib _ cib lib dib eib _ fib mib W (hib.below hW (Nat.le_refl _)) iib (gib.below hW (Nat.le_refl _)) jib) hu
  | true =>
    simp only [Bool.and_eq_true, decide_eq_true_eq] at hu
    obtain ⟨⟨⟨uia, wia⟩, via⟩, ⟨⟨uib, wib⟩, vib⟩⟩ := hu
    obtain ⟨qia, nia, -, -, ria, -, sia⟩ := fra_of_fvld via hia iia gia jia
    have f4ia : Fz 40 40 qia := ⟨by unfold Sz; rw [← ria]; exact uia, by unfold Sz; rw [Int.natAbs_natCast, ← sia]; exact wia⟩
    obtain ⟨qib, nib, -, -, rib, -, sib⟩ := fra_of_fvld vib hib iib gib jib
    have f4ib : Fz 40 40 qib := ⟨by unfold Sz; rw [← rib]; exact uib, by unfold Sz; rw [Int.natAbs_natCast, ← sib]; exact wib⟩
    exact FracNearest_core qia qib f4ia f4ib bia aia _ cia dia eia _ fia bib aib _ cib dib eib _ fib md hmd w nia nib
set_option maxRecDepth 100000 in
theorem fracNearest_lifted (os : Os) (started : os.Started) (H : Type) (enc : TypeId × Value → H) :
    ReturnsInHanded {} Tryz.checked os 11 .any (Rows.fracNearestSpec.pre6 enc Tryz.prog Tryz.f11 Rows.fracNearestRow.domain false) (Rows.fracNearestSpec.post enc Tryz.prog Tryz.f11 false true false false) := by
  refine returnsInHanded_of_change_sized (C := Tryz.checked) Tryz.ownKnob started (by kernel_rfl) Tryz.func11
    (ChangeSpec.witness6 (enc := enc) (C := Tryz.checked) false ⟨#[], #[.agg #[.bool false, .slice none 0 0, .bool false, .slice none 0 0], .agg #[.bool false, .slice none 0 0, .bool false, .slice none 0 0], .int .u8 0], []⟩ 8 (by kernel_rfl) (by kernel_rfl) (by kernel_rfl) (by kernel_rfl)) ?_
  intro W base args ds gs before hval0 hW hcnd hsz0 _
  have hval : ∀ (j : Nat) t v, Tryz.f11.params[j]? = some t → args[j]? = some v → Value.okWide Tryz.prog W .any base t v := hval0
  have hsz : (DataW.weightsEach Tryz.prog (Tryz.f11.params.toList ++ Rows.fracNearestSpec.plain.varTypes Tryz.prog) (ds ++ gs)).all (· ≤ reachBytes) = true := hsz0
  have hW' := hW
  obtain ⟨p, q, hA0, hV, rfl, hfz, hnd⟩ := hW
  have hA : DataW.TrodAll enc Tryz.prog W 0 (fun _ => true) true Tryz.f11.params.toList args.toList ds p := hA0
  rw [Tryz.params11] at hA hval hsz
  obtain ⟨v0, vs0, d0, ds0, p0, q0, hargs, rfl, rfl, h0, r0⟩ := trodAll_cons hA
  obtain ⟨v1, vs1, d1, ds1, p1, q1, rfl, rfl, rfl, h1, r1⟩ := trodAll_cons r0
  obtain ⟨v2, vs2, d2, ds2, p2, q2, rfl, rfl, rfl, h2, r2⟩ := trodAll_cons r1
  obtain ⟨rfl, rfl, rfl⟩ := trodAll_nil r2
  obtain rfl : args = #[v0, v1, v2] := by cases args; simp_all
  obtain ⟨rfl, rfl⟩ := trodVars_none hV
  obtain ⟨b0, s0, l0, b0', s0', l0', rfl, lim0, lm0, lim0', lm0', again0⟩ := open_frac (hval 0 26 _ rfl rfl) h0 (within_of hsz (j := 0) rfl rfl)
  obtain ⟨b1, s1, l1, b1', s1', l1', rfl, lim1, lm1, lim1', lm1', again1⟩ := open_frac (hval 1 26 _ rfl rfl) h1 (within_of hsz (j := 1) rfl rfl)
  obtain ⟨x2, rfl, rfl, rfl, wf2⟩ := open_int Tryz.underlying5 (hval 2 5 v2 rfl rfl) h2
  clear hA0 hval0
  simp only [List.append_nil] at hW'
  refine (FracNearest_walk b0 s0 l0 b0' s0' l0' b1 s1 l1 b1' s1' l1' x2 (u8_bd5 wf2) W lim0 lm0 lim0' lm0' lim1 lm1 lim1' lm1').mono fun e W' ⟨he, hb⟩ => ?_
  subst he
  exact ⟨_, rfl, lawPost (pa := _) (pv := []) hW' hb (by simp) (ok_one (by kernel_rfl) rfl (okWide_bool_mk Tryz.underlying4 _)) (fun _ _ _ => (trodAll_cons_mk (shut_bool Tryz.underlying4 _) trodAll_mk0)) (fun sp hsp => (trodAll_cons_mk (again0 W' sp hb (fun q hq => hsp q (by simp only [List.mem_append] at hq ⊢; simp [hq]))) (trodAll_cons_mk (again1 W' sp hb (fun q hq => hsp q (by simp only [List.mem_append] at hq ⊢; simp [hq]))) (trodAll_cons_mk (shut_int Tryz.underlying5 wf2) trodAll_mk0)))) (fun _ _ => rfl)⟩
theorem fracNearest_proved : Rows.FracNearestSaid :=
  OpenClaim.holds_of_wide 11 Tryz.f11 rfl rfl rfl rfl rfl rfl rfl ⟨rfl, rfl, rfl, rfl, rfl⟩ rfl rfl rfl rfl rfl fracNearest_named Tryz.func11 fracNearest_closed fracNearest_inst fracNearest_wrap
    (fun os started H enc _ => fracNearest_lifted os started H enc)
end Go.Proofs.YthlclegajldphaaGreat
