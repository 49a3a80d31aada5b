/-
'WholeTexts' returns true for every number, text and digit. No condition.
-/
import Derived.Test.YtodmbklednehbaaTexts
import Derived.Test.YtodmbklednehbaaOpen
import Derived.Test.YtodmbklednehbaaPost
namespace Go.Proofs.Ytodmbklednehbaa

section
open Go.RowKit Wh

set_option maxRecDepth 100000 in
set_option maxHeartbeats 8000000 in
theorem WholeTexts_skip (bia : Bool) (aia : Option Addr) (cia : Nat) (lia : List Nat) (t : ByteArray) (d : Nat) (w : World) (hia : Lim w (.slice aia lia.length cia) lia) (hu : ((decide (lia.length ≤ 100) && vld bia lia)) = false) :
    Calls Try.prog 9 #[.agg #[.bool bia, .slice aia lia.length cia], .string t, .int .u8 (d : Int)] w fun e w' => e = .returned (.bool true) ∧ Below w.heap.size w w' := by
  have hB := ((Below.refl w.heap.size w).alloc (by simp <;> omega) (.cells #[.bool bia, .slice aia lia.length cia] 26))
  have xia := (Bx.new w (.bool bia) (.slice aia lia.length cia))
  have hU := fun B W (hW : Below w.heap.size w W) (c0 : W.cell? ⟨B, 0, none⟩ = some (.bool bia)) (c0' : W.cell? ⟨B, 1, none⟩ = some (.slice aia lia.length cia)) => usable1_any 100 B bia _ lia W c0 c0' (hia.below hW (Nat.le_refl _))
  rw [hu] at hU
  have HU := Lib.hid hU
  clear hU hu hia
  obtain ⟨kia, hkia⟩ : ∃ n, n = lia.length := ⟨_, rfl⟩
  rw [← hkia] at HU hB xia ⊢
  clear hkia
  go_enter Try.func9, Try.ntmps9
  go_wp2_with fail
  refine (awake_any _).mono ?_
  rintro e v1 ⟨rfl, hb⟩
  replace xia := xia.on hb
  obtain ⟨pia, pia'⟩ := xia.cells
  replace hB := hB.trans (hb.mono hB.size)
  clear hb
  go_wp2_with fail
  refine (HU.out _ _ (hB.alloc hB.size _) (by simp) (by simp)).mono ?_
  rintro e v2 ⟨rfl, hb⟩
  have hB2 := (hB.alloc hB.size (.cells #[.bool bia, .slice aia kia cia] 26)).trans (hb.mono (hB.alloc hB.size (.cells #[.bool bia, .slice aia kia cia] 26)).size)
  go_wp2
  go_ret
  exact ⟨rfl, hB2⟩

set_option maxRecDepth 100000 in
set_option maxHeartbeats 8000000 in
theorem WholeTexts_wide (a : Int) (sa : Sz 100 a) (bia : Bool) (aia : Option Addr) (kia cia : Nat) (t : ByteArray) (ht : 400 < t.size) (d : Nat) (w : World) (ia : Num w (.agg #[.bool bia, .slice aia kia cia]) a) :
    Calls Try.prog 9 #[.agg #[.bool bia, .slice aia kia cia], .string t, .int .u8 (d : Int)] w fun e w' => e = .returned (.bool true) ∧ Below w.heap.size w w' := by
  have ht4 : 400 < (t.size : Int) := by omega
  have hB := ((Below.refl w.heap.size w).alloc (by simp <;> omega) (.cells #[.bool bia, .slice aia kia cia] 26))
  have xia := (Bx.new w (.bool bia) (.slice aia kia cia))
  replace ia := ia.below hB (Nat.le_refl _)
  go_enter Try.func9, Try.ntmps9
  go_wp2_with fail
  refine (awake_any _).mono ?_
  rintro e v1 ⟨rfl, hb⟩
  replace ia := ia.below hb (Nat.le_refl _)
  replace xia := xia.on hb
  obtain ⟨pia, pia'⟩ := xia.cells
  replace hB := hB.trans (hb.mono hB.size)
  clear hb
  go_wp2_with fail
  have al := (Below.refl v1.heap.size v1).alloc (Nat.le_refl _) (.cells #[.bool bia, .slice aia kia cia] 26)
  replace ia := ia.below al (Nat.le_refl _)
  replace xia := xia.on al
  replace hB := hB.alloc hB.size (.cells #[.bool bia, .slice aia kia cia] 26)
  clear al
  have HU := usable1_num' 100 v1.heap.size (by decide) a _ (by simp) (by simp) ia (Sz.len2 sa)
  refine HU.mono ?_
  clear HU
  rintro e v2 ⟨rfl, hb⟩
  clear pia pia'
  replace ia := ia.below hb (Nat.le_refl _)
  replace xia := xia.on hb
  obtain ⟨pia, pia'⟩ := xia.cells
  replace hB := hB.trans (hb.mono hB.size)
  clear hb
  go_wp2
  go_ret
  exact ⟨rfl, hB⟩

theorem WholeTexts_core (a : Int) (sa : Sz 100 a) (bia : Bool) (aia : Option Addr) (kia cia : Nat) (t : ByteArray) (d : Nat) (hd : d < 256) (w : World) (ia : Num w (.agg #[.bool bia, .slice aia kia cia]) a) :
    Calls Try.prog 9 #[.agg #[.bool bia, .slice aia kia cia], .string t, .int .u8 (d : Int)] w fun e w' => e = .returned (.bool true) ∧ Below w.heap.size w w' := by
  rcases Nat.lt_or_ge 400 t.size with ht | ht
  · exact WholeTexts_wide a sa bia aia kia cia t ht d w ia
  · rcases Int.lt_trichotomy a 0 with h | h | h
    · exact WholeTexts_neg a sa bia aia kia cia t ht d hd h w ia
    · exact WholeTexts_zero a sa bia aia kia cia t ht d hd h w ia
    · exact WholeTexts_pos a sa bia aia kia cia t ht d hd h w ia
end

section
open Go.ChangeShapes Go.WideShapes Go.ChangeAt Go.RowKit Wh
open Go.ChangeMaps (open_string shut_string)

theorem u8_bd {n : Int} (h : (Lit.int .u8 n).wf = true) : 0 ≤ n ∧ n < 256 := by
  have e1 : IntKind.min .u8 = 0 := by decide
  have e2 : IntKind.max .u8 = 255 := by decide
  simp only [Lit.wf, Bool.and_eq_true, decide_eq_true_eq, e1, e2] at h
  omega

theorem WholeTexts_walk (bia : Bool) (sia : Value) (lia : List Nat) (t : ByteArray) (n : Int) (hn : 0 ≤ n ∧ n < 256) (w : World) (hia : Lim w sia lia) (mia : Lm lia) :
    Calls Try.prog 9 #[.agg #[.bool bia, sia], .string t, .int .u8 n] w fun e w' => e = .returned (.bool true) ∧ Below w.heap.size w w' := by
  obtain ⟨aia, cia, rfl⟩ := lim_slice hia
  obtain ⟨d, rfl⟩ := Int.eq_ofNat_of_zero_le hn.1
  cases hu : (decide (lia.length ≤ 100) && vld bia lia) with
  | false => exact WholeTexts_skip bia aia cia lia t d w hia hu
  | true =>
    simp only [Bool.and_eq_true, decide_eq_true_eq] at hu
    obtain ⟨l0ia, v0ia⟩ := hu
    obtain ⟨zia, -, eia, nia⟩ := num_of_vld v0ia hia mia
    exact WholeTexts_core zia (show Sz 100 zia by unfold Sz; rw [← eia]; exact l0ia) bia aia _ cia t d (by omega) w nia

set_option maxRecDepth 100000 in
theorem wholeTexts_lifted (os : Os) (started : os.Started) (H : Type) (enc : TypeId × Value → H) :
    ReturnsInHanded {} Try.checked os 9 .any (Rows.wholeTextsSpec.pre6 enc Try.prog Try.f9 Rows.wholeTextsRow.domain false) (Rows.wholeTextsSpec.post enc Try.prog Try.f9 false true false false) := by
  refine returnsInHanded_of_change_sized (C := Try.checked) Try.ownKnob started (by kernel_rfl) Try.func9
    (ChangeSpec.witness6 (enc := enc) (C := Try.checked) false ⟨#[], #[.agg #[.bool false, .slice none 0 0], .string ByteArray.empty, .int .u8 0], []⟩ 8 (by kernel_rfl) (by kernel_rfl) (by kernel_rfl) (by kernel_rfl)) ?_
  intro W base args ds gs before hval0 hW hcnd hsz0 _
  have hval : ∀ (j : Nat) t v, Try.f9.params[j]? = some t → args[j]? = some v → Value.okWide Try.prog W .any base t v := hval0
  have hsz : (DataW.weightsEach Try.prog (Try.f9.params.toList ++ Rows.wholeTextsSpec.plain.varTypes Try.prog) (ds ++ gs)).all (· ≤ reachBytes) = true := hsz0
  have hW' := hW
  obtain ⟨p, q, hA0, hV, rfl, hfz, hnd⟩ := hW
  have hA : DataW.TrodAll enc Try.prog W 0 (fun _ => true) true Try.f9.params.toList args.toList ds p := hA0
  rw [Try.params9] at hA hval hsz
  obtain ⟨v0, vs0, d0, ds0, p0, q0, hargs, rfl, rfl, h0, r0⟩ := trodAll_cons hA
  obtain ⟨v1, vs1, d1, ds1, p1, q1, rfl, rfl, rfl, h1, r1⟩ := trodAll_cons r0
  obtain ⟨v2, vs2, d2, ds2, p2, q2, rfl, rfl, rfl, h2, r2⟩ := trodAll_cons r1
  obtain ⟨rfl, rfl, rfl⟩ := trodAll_nil r2
  obtain rfl : args = #[v0, v1, v2] := by cases args; simp_all
  obtain ⟨rfl, rfl⟩ := trodVars_none hV
  obtain ⟨b0, s0, l0, rfl, lim0, lm0, again0⟩ := open_whole (hval 0 26 _ rfl rfl) h0 (within_of hsz (j := 0) rfl rfl)
  obtain ⟨a1, rfl, rfl, rfl, w1⟩ := open_string Try.underlying9 (hval 1 9 v1 rfl rfl) h1
  obtain ⟨a2, rfl, rfl, rfl, w2⟩ := open_int Try.underlying5 (hval 2 5 v2 rfl rfl) h2
  clear hA0 hval0
  simp only [List.append_nil] at hW'
  refine (WholeTexts_walk b0 s0 l0 a1 a2 (u8_bd w2) W lim0 lm0).mono fun e W' ⟨he, hb⟩ => ?_
  subst he
  exact ⟨_, rfl, lawPost (pa := _) (pv := []) hW' hb (by simp) (ok_one (by kernel_rfl) rfl (okWide_bool_mk Try.underlying4 _)) (fun _ _ _ => (trodAll_cons_mk (shut_bool Try.underlying4 _) trodAll_mk0)) (fun sp hsp => (trodAll_cons_mk (again0 W' sp hb (fun q hq => hsp q (by first | exact hq | simpa using hq))) (trodAll_cons_mk (shut_string Try.underlying9 w1) (trodAll_cons_mk (shut_int Try.underlying5 w2) trodAll_mk0)))) (fun _ _ => rfl)⟩

theorem wholeTexts_proved : Rows.WholeTextsSaid :=
  OpenClaim.holds_of_wide 9 Try.f9 rfl rfl rfl rfl rfl rfl rfl ⟨rfl, rfl, rfl, rfl, rfl⟩ rfl rfl rfl rfl rfl (by kernel_rfl) Try.func9 (by kernel_rfl)
    (of_decide_eq_true (by kernel_rfl)) (by unfold Func.isWrapper; first | (rw [if_pos (by decide +kernel)]; kernel_rfl) | (rw [if_neg (by decide +kernel)]; exact ⟨rfl, rfl⟩))
    (fun os started H enc _ => wholeTexts_lifted os started H enc)
end

end Go.Proofs.Ytodmbklednehbaa
