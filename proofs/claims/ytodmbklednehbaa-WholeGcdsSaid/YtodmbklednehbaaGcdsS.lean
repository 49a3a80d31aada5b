/-
'WholeGcds' where a number is not valid, or has too many limbs.
-/
import Derived.Test.YtodmbklednehbaaGcds
namespace Go.Proofs.Ytodmbklednehbaa
open Go.RowKit Wh

set_option maxRecDepth 100000 in
set_option maxHeartbeats 8000000 in
theorem WholeGcds_skip (bia : Bool) (aia : Option Addr) (cia : Nat) (lia : List Nat) (bib : Bool) (aib : Option Addr) (cib : Nat) (lib : List Nat) (bic : Bool) (aic : Option Addr) (cic : Nat) (lic : List Nat) (w : World) (hia : Lim w (.slice aia lia.length cia) lia) (hib : Lim w (.slice aib lib.length cib) lib) (hic : Lim w (.slice aic lic.length cic) lic) (hu : ((decide (lia.length ≤ 40) && vld bia lia) && (decide (lib.length ≤ 40) && vld bib lib) && (decide (lic.length ≤ 40) && vld bic lic)) = false) :
    Calls Try.prog 8 #[.agg #[.bool bia, .slice aia lia.length cia], .agg #[.bool bib, .slice aib lib.length cib], .agg #[.bool bic, .slice aic lic.length cic]] w fun e w' => e = .returned (.bool true) ∧ Below w.heap.size w w' := by
  have hB := ((((Below.refl w.heap.size w).alloc (by simp <;> omega) (.cells #[.bool bia, .slice aia lia.length cia] 26)).alloc (by simp <;> omega) (.cells #[.bool bib, .slice aib lib.length cib] 26)).alloc (by simp <;> omega) (.cells #[.bool bic, .slice aic lic.length cic] 26))
  have xia := (((Bx.new w (.bool bia) (.slice aia lia.length cia)).alloc (.cells #[.bool bib, .slice aib lib.length cib] 26)).alloc (.cells #[.bool bic, .slice aic lic.length cic] 26))
  have xib := ((Bx.new (w.alloc (.cells #[.bool bia, .slice aia lia.length cia] 26)) (.bool bib) (.slice aib lib.length cib)).alloc (.cells #[.bool bic, .slice aic lic.length cic] 26))
  simp only [World.size_alloc] at xib
  have xic := (Bx.new ((w.alloc (.cells #[.bool bia, .slice aia lia.length cia] 26)).alloc (.cells #[.bool bib, .slice aib lib.length cib] 26)) (.bool bic) (.slice aic lic.length cic))
  simp only [World.size_alloc] at xic
  have hU := fun B W (hW : Below w.heap.size w W) (c0 : W.cell? ⟨B, 0, none⟩ = some (.bool bia)) (c0' : W.cell? ⟨B, 1, none⟩ = some (.slice aia lia.length cia)) (c1 : W.cell? ⟨B, 2, none⟩ = some (.bool bib)) (c1' : W.cell? ⟨B, 3, none⟩ = some (.slice aib lib.length cib)) (c2 : W.cell? ⟨B, 4, none⟩ = some (.bool bic)) (c2' : W.cell? ⟨B, 5, none⟩ = some (.slice aic lic.length cic)) => usable3_any 40 B bia _ lia bib _ lib bic _ lic W c0 c0' c1 c1' c2 c2' (hia.below hW (Nat.le_refl _)) (hib.below hW (Nat.le_refl _)) (hic.below hW (Nat.le_refl _))
  rw [hu] at hU
  have HU := Lib.hid hU
  clear hU hu hia hib hic
  obtain ⟨kia, hkia⟩ : ∃ n, n = lia.length := ⟨_, rfl⟩
  obtain ⟨kib, hkib⟩ : ∃ n, n = lib.length := ⟨_, rfl⟩
  obtain ⟨kic, hkic⟩ : ∃ n, n = lic.length := ⟨_, rfl⟩
  rw [← hkia] at HU hB xia xib xic ⊢
  rw [← hkib] at HU hB xia xib xic ⊢
  rw [← hkic] at HU hB xia xib xic ⊢
  clear hkia hkib hkic
  go_enter Try.func8, Try.ntmps8
  go_wp2_with fail
  refine (awake_any _).mono ?_
  rintro e v1 ⟨rfl, hb⟩
  replace xia := xia.on hb
  obtain ⟨pia, pia'⟩ := xia.cells
  replace xib := xib.on hb
  obtain ⟨pib, pib'⟩ := xib.cells
  replace xic := xic.on hb
  obtain ⟨pic, pic'⟩ := xic.cells
  replace hB := hB.trans (hb.mono hB.size)
  clear hb
  go_wp2_with fail
  refine (HU.out _ _ (hB.alloc hB.size _) (by simp) (by simp) (by simp) (by simp) (by simp) (by simp)).mono ?_
  rintro e v2 ⟨rfl, hb⟩
  have hB2 := (hB.alloc hB.size (.cells #[.bool bia, .slice aia kia cia, .bool bib, .slice aib kib cib, .bool bic, .slice aic kic cic] 26)).trans (hb.mono (hB.alloc hB.size (.cells #[.bool bia, .slice aia kia cia, .bool bib, .slice aib kib cib, .bool bic, .slice aic kic cic] 26)).size)
  go_wp2
  go_ret
  exact ⟨rfl, hB2⟩

end Go.Proofs.Ytodmbklednehbaa
