/-
The examples of the chapter, in plain integers.
-/
import Derived.Test.YtmjmpdbkijhkiaaDoorCMath
namespace Cal

theorem mon_30 : mon 30 = 0 := mon_uniq (by decide) (by decide) (by decide) (by decide) (by decide)
theorem mon_58 : mon 58 = 1 := mon_uniq (by decide) (by decide) (by decide) (by decide) (by decide)
theorem mon_36583 : mon 36583 = 1201 := mon_uniq (by decide) (by decide) (by decide) (by decide) (by decide)
theorem mon_36947 : mon 36947 = 1213 := mon_uniq (by decide) (by decide) (by decide) (by decide) (by decide)
theorem mon_36948 : mon 36948 = 1213 := mon_uniq (by decide) (by decide) (by decide) (by decide) (by decide)
theorem mon_65535 : mon 65535 = 2153 := mon_uniq (by decide) (by decide) (by decide) (by decide) (by decide)
theorem dom_30 : dom 30 = 31 := by unfold dom; rw [mon_30]; decide
theorem dom_36583 : dom 36583 = 29 := by unfold dom; rw [mon_36583]; decide
theorem dom_65535 : dom 65535 = 6 := by unfold dom; rw [mon_65535]; decide
theorem later_12 : laterN 36583 12 = 36948 := by unfold laterN; rw [mon_36583, dom_36583]; decide
theorem later_m1 : laterN 36583 (-1) = 36552 := by unfold laterN; rw [mon_36583, dom_36583]; decide
theorem later_1 : laterN 30 1 = 58 := by unfold laterN; rw [mon_30, dom_30]; decide
theorem laterB_12 : laterB 36583 12 = true := by unfold laterB; rw [later_12, mon_36583]; decide
theorem laterB_m1 : laterB 36583 (-1) = true := by unfold laterB; rw [later_m1, mon_36583]; decide
theorem laterB_1 : laterB 30 1 = true := by unfold laterB; rw [later_1, mon_30]; decide
theorem laterB_end : laterB 65535 1 = false := by unfold laterB; rw [mon_65535]; exact decide_eq_false (by omega)
theorem whole_30 : whole 30 58 = 1 := by
  unfold whole; rw [mon_58, mon_30, show (1 : Int) - 0 = 1 from rfl, laterB_1, later_1]; decide
theorem whole_11 : whole 36583 36947 = 11 := by
  unfold whole; rw [mon_36583, mon_36947, show (1213 : Int) - 1201 = 12 from rfl, later_12]; simp
theorem whole_12 : whole 36583 36948 = 12 := by
  unfold whole; rw [mon_36583, mon_36948, show (1213 : Int) - 1201 = 12 from rfl, laterB_12, later_12]; decide
theorem date_2000 : dateB 2000 2 29 = true := by decide
theorem dayN_2000 : dayN 2000 2 29 = 36583 := by decide
theorem date_1900 : dateB 1900 2 29 = false := by decide
theorem start_1201 : start 1201 = 36555 := by decide

end Cal
