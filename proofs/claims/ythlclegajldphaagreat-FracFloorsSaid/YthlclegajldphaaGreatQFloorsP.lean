/- 'FracFloors' returns true for every fraction, valid or not: of one that is valid and has at most 40 limbs in each part Floor is the greatest whole number that is not greater, Ceil the negative of the Floor of its negative, and Int returns a whole one's number, or ErrPart. No condition. -/
import Derived.ProofKit
import Derived.WalkKit
import Derived.Test.YthlclegajldphaaGreatQz1
import Derived.Test.YthlclegajldphaaGreatQz2
import Derived.Test.YthlclegajldphaaGreatQz3
import Derived.Test.YthlclegajldphaaGreatQz4
import Derived.Test.YthlclegajldphaaGreatQz5
import Derived.Test.YthlclegajldphaaGreatQz6
import Derived.Test.YthlclegajldphaaGreatQz7
import Derived.Test.YthlclegajldphaaGreatQz8
import Derived.Test.YthlclegajldphaaGreatQz9
import Derived.Test.YthlclegajldphaaGreatQz10
import Derived.Test.YthlclegajldphaaGreatQz11
import Derived.Test.YthlclegajldphaaGreatQz12
import Derived.Test.YthlclegajldphaaGreatQz13
import Derived.Test.YthlclegajldphaaGreatQz14
import Derived.Test.YthlclegajldphaaGreatQz15
import Derived.Test.YthlclegajldphaaGreatQz16
import Derived.Test.YthlclegajldphaaGreatQz17
import Derived.Test.YthlclegajldphaaGreatQz18
import Derived.Test.YthlclegajldphaaGreatQz19
import Derived.Test.YthlclegajldphaaGreatQz20
import Derived.Test.YthlclegajldphaaGreatQz21
import Derived.Test.YthlclegajldphaaGreatQz22
import Derived.Test.YthlclegajldphaaGreatQz23
import Derived.Test.YthlclegajldphaaGreatQz24
import Derived.Test.YthlclegajldphaaGreatQz25
import Derived.Test.YthlclegajldphaaGreatQz26
import Derived.Test.YthlclegajldphaaGreatQz27
import Derived.Test.YthlclegajldphaaGreatQz28
import Derived.Test.YthlclegajldphaaGreatRows
import Derived.Test.YthlclegajldphaaGreatQFloors1
import Derived.Test.YthlclegajldphaaGreatQFloors2
namespace Go.Proofs.YthlclegajldphaaGreat
open Go.ChangeShapes Go.WideShapes Go.ChangeAt Go.RowKit
theorem fracFloors_named : Tryz.pinned.checked.prog.funcNamed Rows.fracFloorsRow.func = some 10 := by kernel_rfl
theorem fracFloors_closed : joinedFacts Tryz.pinned.checked.prog 10 Tryz.f10 Rows.fracFloorsSpec Rows.fracFloorsRow = true := by kernel_rfl
theorem fracFloors_inst : Tryz.f10.isInstance Tryz.pinned.checked.prog Rows.fracFloorsRow.origin Rows.fracFloorsRow.targs := of_decide_eq_true (by kernel_rfl)
theorem fracFloors_wrap : Tryz.f10.isWrapper Tryz.pinned.checked.prog Rows.fracFloorsRow.wrapper Rows.fracFloorsRow.mainSum := by unfold Func.isWrapper; first | (rw [if_pos (by decide +kernel)]; kernel_rfl) | (rw [if_neg (by decide +kernel)]; exact ⟨rfl, rfl⟩)
end Go.Proofs.YthlclegajldphaaGreat
namespace Go.Proofs.YthlclegajldphaaGreat
open Go.ChangeShapes Go.WideShapes Go.ChangeAt Go.RowKit Wh
set_option maxRecDepth 100000 in
set_option maxHeartbeats 4000000 in
theorem FracFloors_skip (bia : Bool) (aia : Option Addr) (kia cia : Nat) (dia : Bool) (eia : Option Addr) (lia mia : Nat) (via : Bool) (w : World) (hvia : ∀ W, Below w.heap.size w W → Calls Tryz.prog 51 #[.agg #[.bool bia, .slice aia kia cia, .bool dia, .slice eia lia mia]] W fun e w' => e = .returned (.bool via) ∧ Below W.heap.size W w') (hu : (((decide (kia ≤ 40) && decide (lia ≤ 40)) && via)) = false) :
    Calls Tryz.prog 10 #[.agg #[.bool bia, .slice aia kia cia, .bool dia, .slice eia lia mia]] w fun e w' => e = .returned (.bool true) ∧ Below w.heap.size w w' := by
  have hU := fun B W (hW : Below w.heap.size w W) y0 y1 y2 y3 => usable1_any B bia aia kia cia dia eia lia mia via W y0 y1 y2 y3 (fun V hV => hvia V (hW.trans (hV.mono hW.size)))
  rw [hu] at hU
  have HU := Lib.hid hU
  clear hU hu hvia
  have hB := Below.refl w.heap.size w
  obtain ⟨al, xia, hN⟩ := mk hB #[.bool bia, .slice aia kia cia, .bool dia, .slice eia lia mia] 26
  replace hB := hN
  clear al hN
  try simp only [World.size_alloc] at xia
  go_enter Tryz.func10, Tryz.ntmps10
  go_wp2_with fail
  refine (law2_awake_any _).mono ?_
  rintro e w1 ⟨rfl, hb⟩
  replace xia := xia.on hb
  have hz1 := hb.size
  try simp at hz1
  replace hB := hB.trans (hb.mono hB.size)
  clear hb
  have pia := xia.all4
  have ltia := xia.lt
  go_wp2_with fail
  clear ltia
  clear pia
  have hb := ((Below.refl w1.heap.size w1).alloc (Nat.le_refl _) (.cells #[.bool bia, .slice aia kia cia, .bool dia, .slice eia lia mia] 26))
  have xrow : Bk _ w1.heap.size #[.bool bia, .slice aia kia cia, .bool dia, .slice eia lia mia] 26 := (Bk.new w1 #[.bool bia, .slice aia kia cia, .bool dia, .slice eia lia mia] 26)
  replace xia := xia.on hb
  replace hB := hB.trans (hb.mono hB.size)
  clear hb
  have rw0 := xrow.cell 0
  have rw1 := xrow.cell 1
  have rw2 := xrow.cell 2
  have rw3 := xrow.cell 3
  simp only [List.getElem?_toArray, List.getElem?_cons_zero, List.getElem?_cons_succ] at rw0 rw1 rw2 rw3
  refine (HU.out _ _ hB rw0 rw1 rw2 rw3).mono ?_
  rintro e w2 ⟨rfl, hb⟩
  clear xrow rw0 rw1 rw2 rw3
  replace xia := xia.on hb
  replace hB := hB.trans (hb.mono hB.size)
  clear hb
  go_wp2
  go_ret
  exact ⟨rfl, hB⟩
theorem FracFloors_walk (bia : Bool) (sia : Value) (lia : List Nat) (dia : Bool) (tia : Value) (mia : List Nat) (w : World) (hia : Lim w sia lia) (iia : Lm lia) (gia : Lim w tia mia) (jia : Lm mia) :
    Calls Tryz.prog 10 #[.agg #[.bool bia, sia, .bool dia, tia]] w fun e w' => e = .returned (.bool true) ∧ Below w.heap.size w w' := by
  obtain ⟨aia, cia, rfl⟩ := lim_slice hia
  obtain ⟨eia, fia, rfl⟩ := lim_slice gia
  cases hu : (((decide (lia.length ≤ 40) && decide (mia.length ≤ 40)) && fvld bia lia dia mia)) with
  | false => exact FracFloors_skip bia aia _ cia dia eia _ fia _ w (fun W hW => frValid_raw bia aia _ cia lia dia eia _ fia mia W (hia.below hW (Nat.le_refl _)) iia (gia.below hW (Nat.le_refl _)) jia) hu
  | true =>
    simp only [Bool.and_eq_true, decide_eq_true_eq] at hu
    obtain ⟨⟨uia, wia⟩, via⟩ := hu
    obtain ⟨qia, nia, -, -, ria, -, sia⟩ := fra_of_fvld via hia iia gia jia
    have f4ia : Fz 40 40 qia := ⟨by unfold Sz; rw [← ria]; exact uia, by unfold Sz; rw [Int.natAbs_natCast, ← sia]; exact wia⟩
    exact FracFloors_core qia f4ia bia aia _ cia dia eia _ fia w nia
set_option maxRecDepth 100000 in
theorem fracFloors_lifted (os : Os) (started : os.Started) (H : Type) (enc : TypeId × Value → H) :
    ReturnsInHanded {} Tryz.checked os 10 .any (Rows.fracFloorsSpec.pre6 enc Tryz.prog Tryz.f10 Rows.fracFloorsRow.domain false) (Rows.fracFloorsSpec.post enc Tryz.prog Tryz.f10 false true false false) := by
  refine returnsInHanded_of_change_sized (C := Tryz.checked) Tryz.ownKnob started (by kernel_rfl) Tryz.func10
    (ChangeSpec.witness6 (enc := enc) (C := Tryz.checked) false ⟨#[], #[.agg #[.bool false, .slice none 0 0, .bool false, .slice none 0 0]], []⟩ 8 (by kernel_rfl) (by kernel_rfl) (by kernel_rfl) (by kernel_rfl)) ?_
  intro W base args ds gs before hval0 hW hcnd hsz0 _
  have hval : ∀ (j : Nat) t v, Tryz.f10.params[j]? = some t → args[j]? = some v → Value.okWide Tryz.prog W .any base t v := hval0
  have hsz : (DataW.weightsEach Tryz.prog (Tryz.f10.params.toList ++ Rows.fracFloorsSpec.plain.varTypes Tryz.prog) (ds ++ gs)).all (· ≤ reachBytes) = true := hsz0
  have hW' := hW
  obtain ⟨p, q, hA0, hV, rfl, hfz, hnd⟩ := hW
  have hA : DataW.TrodAll enc Tryz.prog W 0 (fun _ => true) true Tryz.f10.params.toList args.toList ds p := hA0
  rw [Tryz.params10] at hA hval hsz
  obtain ⟨v0, vs0, d0, ds0, p0, q0, hargs, rfl, rfl, h0, r0⟩ := trodAll_cons hA
  obtain ⟨rfl, rfl, rfl⟩ := trodAll_nil r0
  obtain rfl : args = #[v0] := by cases args; simp_all
  obtain ⟨rfl, rfl⟩ := trodVars_none hV
  obtain ⟨b0, s0, l0, b0', s0', l0', rfl, lim0, lm0, lim0', lm0', again0⟩ := open_frac (hval 0 26 _ rfl rfl) h0 (within_of hsz (j := 0) rfl rfl)
  clear hA0 hval0
  simp only [List.append_nil] at hW'
  refine (FracFloors_walk b0 s0 l0 b0' s0' l0' W lim0 lm0 lim0' lm0').mono fun e W' ⟨he, hb⟩ => ?_
  subst he
  exact ⟨_, rfl, lawPost (pa := _) (pv := []) hW' hb (by simp) (ok_one (by kernel_rfl) rfl (okWide_bool_mk Tryz.underlying4 _)) (fun _ _ _ => (trodAll_cons_mk (shut_bool Tryz.underlying4 _) trodAll_mk0)) (fun sp hsp => (trodAll_cons_mk (again0 W' sp hb (fun q hq => hsp q (by simpa using hq))) trodAll_mk0)) (fun _ _ => rfl)⟩
theorem fracFloors_proved : Rows.FracFloorsSaid :=
  OpenClaim.holds_of_wide 10 Tryz.f10 rfl rfl rfl rfl rfl rfl rfl ⟨rfl, rfl, rfl, rfl, rfl⟩ rfl rfl rfl rfl rfl fracFloors_named Tryz.func10 fracFloors_closed fracFloors_inst fracFloors_wrap
    (fun os started H enc _ => fracFloors_lifted os started H enc)
end Go.Proofs.YthlclegajldphaaGreat
