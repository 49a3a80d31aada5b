/-
'WholeDivides' where b is 0.
-/
import Derived.Test.YtodmbklednehbaaSz
import Derived.Test.YtodmbklednehbaaCutEnd
import Derived.Outline
namespace Go.Proofs.Ytodmbklednehbaa
open Go.RowKit Wh

theorem num_zero0 (W : World) : Num W zeroW 0 := ⟨_, rfl, by rw [show (0 : Int).natAbs = 0 from rfl, dig_zero]; exact Lim.nil W⟩

set_option maxRecDepth 100000 in
set_option maxHeartbeats 64000000 in
theorem WholeDivides_zero (a b : Int) (sa : Sz 200 a) (sb : Sz 200 b) (bia : Bool) (aia : Option Addr) (kia cia : Nat) (bib : Bool) (aib : Option Addr) (kib cib : Nat) (hb0 : b = 0) (w : World) (ia : Num w (.agg #[.bool bia, .slice aia kia cia]) a) (ib : Num w (.agg #[.bool bib, .slice aib kib cib]) b) :
    Calls Try.prog 5 #[.agg #[.bool bia, .slice aia kia cia], .agg #[.bool bib, .slice aib kib cib]] w fun e w' => e = .returned (.bool true) ∧ Below w.heap.size w w' := by
  have hB := (((Below.refl w.heap.size w).alloc (by simp <;> omega) (.cells #[.bool bia, .slice aia kia cia] 26)).alloc (by simp <;> omega) (.cells #[.bool bib, .slice aib kib cib] 26))
  have xia := ((Bx.new w (.bool bia) (.slice aia kia cia)).alloc (.cells #[.bool bib, .slice aib kib cib] 26))
  have xib := (Bx.new (w.alloc (.cells #[.bool bia, .slice aia kia cia] 26)) (.bool bib) (.slice aib kib cib))
  simp only [World.size_alloc] at xib
  replace ia := ia.below hB (Nat.le_refl _)
  replace ib := ib.below hB (Nat.le_refl _)
  go_enter Try.func5, Try.ntmps5
  go_wp2_with fail
  refine (awake_any _).mono ?_
  rintro e v1 ⟨rfl, hb⟩
  replace ia := ia.below hb (Nat.le_refl _)
  replace xia := xia.on hb
  obtain ⟨pia, pia'⟩ := xia.cells
  replace ib := ib.below hb (Nat.le_refl _)
  replace xib := xib.on hb
  obtain ⟨pib, pib'⟩ := xib.cells
  replace hB := hB.trans (hb.mono hB.size)
  clear hb
  go_wp2_with fail
  have al := (Below.refl v1.heap.size v1).alloc (Nat.le_refl _) (.cells #[.bool bia, .slice aia kia cia, .bool bib, .slice aib kib cib] 26)
  replace ia := ia.below al (Nat.le_refl _)
  replace xia := xia.on al
  replace ib := ib.below al (Nat.le_refl _)
  replace xib := xib.on al
  replace hB := hB.alloc hB.size (.cells #[.bool bia, .slice aia kia cia, .bool bib, .slice aib kib cib] 26)
  clear al
  have HU := usable2_num' 200 v1.heap.size (by decide) a b _ (by simp) (by simp) (by simp) (by simp) ia ib (Sz.len2 sa) (Sz.len2 sb)
  refine HU.mono ?_
  clear HU
  rintro e v2 ⟨rfl, hb⟩
  clear pia pia'
  replace ia := ia.below hb (Nat.le_refl _)
  replace xia := xia.on hb
  obtain ⟨pia, pia'⟩ := xia.cells
  clear pib pib'
  replace ib := ib.below hb (Nat.le_refl _)
  replace xib := xib.on hb
  obtain ⟨pib, pib'⟩ := xib.cells
  replace hB := hB.trans (hb.mono hB.size)
  clear hb
  go_wp2_with fail
  refine (DivMod_zero _ _ a (Sz.len sa (by decide)) _ ia (hb0 ▸ ib)).mono ?_
  rintro e v3 ⟨rfl, hb⟩
  clear pia pia' pib pib'
  replace ia := ia.below hb (Nat.le_refl _)
  replace ib := ib.below hb (Nat.le_refl _)
  replace xia := xia.on hb
  replace xib := xib.on hb
  replace hB := hB.trans (hb.mono hB.size)
  clear hb
  obtain ⟨eb, lb⟩ := neg_num ib
  have ekb := lim_len lb
  rw [hb0] at ekb
  have ek0 : kib = 0 := by rw [ekb]; simp [dig_zero]
  clear ekb lb eb
  subst ek0
  have lv := xib.lt
  replace xib := (xib.alloc (.cells #[.bool false, .slice none 0 0] 26)).alloc (.cells #[.bool false, .slice none 0 0] 26)
  have x5 := (Bx.new v3 (.bool false) (.slice none 0 0)).alloc (.cells #[.bool false, .slice none 0 0] 26)
  have x6 := Bx.new (v3.alloc (.cells #[.bool false, .slice none 0 0] 26)) (.bool false) (.slice none 0 0)
  simp only [World.size_alloc] at x6
  have hB4 : Below w.heap.size w ((v3.alloc (.cells #[.bool false, .slice none 0 0] 26)).alloc (.cells #[.bool false, .slice none 0 0] 26)) := (hB.alloc hB.size (.cells #[.bool false, .slice none 0 0] 26)).alloc (hB.alloc hB.size (.cells #[.bool false, .slice none 0 0] 26)).size (.cells #[.bool false, .slice none 0 0] 26)
  obtain ⟨pib, pib'⟩ := xib.cells
  obtain ⟨p5, p5'⟩ := x5.cells
  obtain ⟨p6, p6'⟩ := x6.cells
  clear ia ib sa sb xia hB
  unfold zeroW
  go_wp2_with fail
  refine (equal_any zeroW zeroW 0 (by simp [dig_zero]) _ (num_zero0 _) (num_zero0 _)).mono ?_
  rintro e v4 ⟨rfl, hb⟩
  replace x6 := x6.on hb
  clear pib pib' p5 p5' p6 p6'
  obtain ⟨p6, p6'⟩ := x6.cells
  replace hB4 := hB4.trans (hb.mono hB4.size)
  clear hb
  go_wp2_with fail
  refine (equal_any zeroW zeroW 0 (by simp [dig_zero]) _ (num_zero0 _) (num_zero0 _)).mono ?_
  rintro e v5 ⟨rfl, hb⟩
  replace hB4 := hB4.trans (hb.mono hB4.size)
  clear hb
  go_wp2
  go_ret
  exact ⟨rfl, hB4⟩

end Go.Proofs.Ytodmbklednehbaa
