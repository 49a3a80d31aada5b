/-
'WholeDivides' where a number is not valid, or has too many limbs.
-/
import Derived.Test.YtodmbklednehbaaDivC
namespace Go.Proofs.Ytodmbklednehbaa
open Go.RowKit Wh

set_option maxRecDepth 100000 in
set_option maxHeartbeats 8000000 in
theorem WholeDivides_skip (bia : Bool) (aia : Option Addr) (cia : Nat) (lia : List Nat) (bib : Bool) (aib : Option Addr) (cib : Nat) (lib : List Nat) (w : World) (hia : Lim w (.slice aia lia.length cia) lia) (hib : Lim w (.slice aib lib.length cib) lib) (hu : ((decide (lia.length ≤ 200) && vld bia lia) && (decide (lib.length ≤ 200) && vld bib lib)) = false) :
    Calls Try.prog 5 #[.agg #[.bool bia, .slice aia lia.length cia], .agg #[.bool bib, .slice aib lib.length cib]] w fun e w' => e = .returned (.bool true) ∧ Below w.heap.size w w' := by
  have hB := (((Below.refl w.heap.size w).alloc (by simp <;> omega) (.cells #[.bool bia, .slice aia lia.length cia] 26)).alloc (by simp <;> omega) (.cells #[.bool bib, .slice aib lib.length cib] 26))
  have xia := ((Bx.new w (.bool bia) (.slice aia lia.length cia)).alloc (.cells #[.bool bib, .slice aib lib.length cib] 26))
  have xib := (Bx.new (w.alloc (.cells #[.bool bia, .slice aia lia.length cia] 26)) (.bool bib) (.slice aib lib.length cib))
  simp only [World.size_alloc] at xib
  have hU := fun B W (hW : Below w.heap.size w W) (c0 : W.cell? ⟨B, 0, none⟩ = some (.bool bia)) (c0' : W.cell? ⟨B, 1, none⟩ = some (.slice aia lia.length cia)) (c1 : W.cell? ⟨B, 2, none⟩ = some (.bool bib)) (c1' : W.cell? ⟨B, 3, none⟩ = some (.slice aib lib.length cib)) => usable2_any 200 B bia _ lia bib _ lib W c0 c0' c1 c1' (hia.below hW (Nat.le_refl _)) (hib.below hW (Nat.le_refl _))
  rw [hu] at hU
  have HU := Lib.hid hU
  clear hU hu hia hib
  obtain ⟨kia, hkia⟩ : ∃ n, n = lia.length := ⟨_, rfl⟩
  obtain ⟨kib, hkib⟩ : ∃ n, n = lib.length := ⟨_, rfl⟩
  rw [← hkia] at HU hB xia xib ⊢
  rw [← hkib] at HU hB xia xib ⊢
  clear hkia hkib
  go_enter Try.func5, Try.ntmps5
  go_wp2_with fail
  refine (awake_any _).mono ?_
  rintro e v1 ⟨rfl, hb⟩
  replace xia := xia.on hb
  obtain ⟨pia, pia'⟩ := xia.cells
  replace xib := xib.on hb
  obtain ⟨pib, pib'⟩ := xib.cells
  replace hB := hB.trans (hb.mono hB.size)
  clear hb
  go_wp2_with fail
  refine (HU.out _ _ (hB.alloc hB.size _) (by simp) (by simp) (by simp) (by simp)).mono ?_
  rintro e v2 ⟨rfl, hb⟩
  have hB2 := (hB.alloc hB.size (.cells #[.bool bia, .slice aia kia cia, .bool bib, .slice aib kib cib] 26)).trans (hb.mono (hB.alloc hB.size (.cells #[.bool bia, .slice aia kia cia, .bool bib, .slice aib kib cib] 26)).size)
  go_wp2
  go_ret
  exact ⟨rfl, hB2⟩

end Go.Proofs.Ytodmbklednehbaa
