/-
'awake': the examples of the chapter.
-/
import Derived.Test.YtmjmpdbkijhkiaaDoorCAdd
import Derived.Test.YtmjmpdbkijhkiaaDoorCText
namespace Go.Proofs.YtmjmpdbkijhkiaaDoor
open Go.RowKit

theorem txt_36583 : txt 36583 = ⟨#[50, 48, 48, 48, 45, 48, 50, 45, 50, 57]⟩ := by
  unfold txt; rw [Cal.mon_36583, Cal.dom_36583]; decide
theorem txt_65535 : txt 65535 = ⟨#[50, 48, 55, 57, 45, 48, 54, 45, 48, 54]⟩ := by
  unfold txt; rw [Cal.mon_65535, Cal.dom_65535]; decide

theorem lit_day {w0 w : World} (hS : St w0 w) : Calls Tryd.prog 15 #[.int .i64 2000, .int .i64 2, .int .i64 29] w fun e w' => e = .returned (.tuple #[.int .i64 36583, .int .i64 0]) ∧ St w0 w' := by
  have := Day_yes 2000 2 29 Cal.date_2000 hS
  rwa [Cal.dayN_2000] at this
theorem lit_day0 {w0 w : World} (hS : St w0 w) : Calls Tryd.prog 15 #[.int .i64 1900, .int .i64 2, .int .i64 29] w fun e w' => e = .returned (.tuple #[.int .i64 0, .int .i64 2]) ∧ St w0 w' :=
  Day_no 1900 2 29 (by omega) Cal.date_1900 hS
theorem lit_add12 {w0 w : World} (hS : St w0 w) : Calls Tryd.prog 32 #[.int .i64 36583, .int .i64 12] w fun e w' => e = .returned (.tuple #[.int .i64 36948, .int .i64 0]) ∧ St w0 w' := by
  have := Add_yes 36583 12 (by omega) (by omega) Cal.laterB_12 hS
  rwa [Cal.later_12] at this
theorem lit_addm1 {w0 w : World} (hS : St w0 w) : Calls Tryd.prog 32 #[.int .i64 36583, .int .i64 (-1)] w fun e w' => e = .returned (.tuple #[.int .i64 36552, .int .i64 0]) ∧ St w0 w' := by
  have := Add_yes 36583 (-1) (by omega) (by omega) Cal.laterB_m1 hS
  rwa [Cal.later_m1] at this
theorem lit_add1 {w0 w : World} (hS : St w0 w) : Calls Tryd.prog 32 #[.int .i64 65535, .int .i64 1] w fun e w' => e = .returned (.tuple #[.int .i64 0, .int .i64 30]) ∧ St w0 w' :=
  Add_err 65535 1 (by omega) (by omega) Cal.laterB_end hS
theorem lit_btw {w0 w : World} (hS : St w0 w) : Calls Tryd.prog 33 #[.int .i64 30, .int .i64 58] w fun e w' => e = .returned (.tuple #[.int .i64 1, .int .i64 0]) ∧ St w0 w' := by
  have := Between_le 30 58 (by omega) (by omega) (by omega) hS
  rwa [Cal.whole_30] at this
theorem lit_btw' {w0 w : World} (hS : St w0 w) : Calls Tryd.prog 33 #[.int .i64 58, .int .i64 30] w fun e w' => e = .returned (.tuple #[.int .i64 (-1), .int .i64 0]) ∧ St w0 w' := by
  have := Between_gt 58 30 (by omega) (by omega) (by omega) hS
  rwa [Cal.whole_30] at this
theorem lit_age0 {w0 w : World} (hS : St w0 w) : Calls Tryd.prog 34 #[.int .i64 36583, .int .i64 36947] w fun e w' => e = .returned (.tuple #[.int .i64 0, .int .i64 0]) ∧ St w0 w' := by
  have := Age_yes 36583 36947 (by omega) (by omega) (by omega) hS
  rwa [Cal.whole_11] at this
theorem lit_age1 {w0 w : World} (hS : St w0 w) : Calls Tryd.prog 34 #[.int .i64 36583, .int .i64 36948] w fun e w' => e = .returned (.tuple #[.int .i64 1, .int .i64 0]) ∧ St w0 w' := by
  have := Age_yes 36583 36948 (by omega) (by omega) (by omega) hS
  rwa [Cal.whole_12] at this
theorem lit_month {w0 w : World} (hS : St w0 w) : Calls Tryd.prog 30 #[.int .i64 36583] w fun e w' => e = .returned (.tuple #[.int .i64 1201, .int .i64 0]) ∧ St w0 w' := by
  have := Month_yes 36583 (by omega) (by omega) hS
  rwa [Cal.mon_36583] at this
theorem lit_first {w0 w : World} (hS : St w0 w) : Calls Tryd.prog 31 #[.int .i64 1201] w fun e w' => e = .returned (.tuple #[.int .i64 36555, .int .i64 0]) ∧ St w0 w' := by
  have := First_yes 1201 (by omega) (by omega) hS
  rwa [Cal.start_1201] at this
theorem lit_week {w0 w : World} (hS : St w0 w) : Calls Tryd.prog 29 #[.int .i64 36583] w fun e w' => e = .returned (.tuple #[.int .i64 2, .int .i64 0]) ∧ St w0 w' :=
  Weekday_yes 36583 (by omega) (by omega) hS
theorem lit_text {w0 w : World} (hS : St w0 w) : Calls Tryd.prog 35 #[.int .i64 36583] w fun e w' => e = .returned (.string ⟨#[50, 48, 48, 48, 45, 48, 50, 45, 50, 57]⟩) ∧ St w0 w' := by
  have := Text_yes 36583 (by omega) (by omega) hS
  rwa [txt_36583] at this
theorem lit_text' {w0 w : World} (hS : St w0 w) : Calls Tryd.prog 35 #[.int .i64 65535] w fun e w' => e = .returned (.string ⟨#[50, 48, 55, 57, 45, 48, 54, 45, 48, 54]⟩) ∧ St w0 w' := by
  have := Text_yes 65535 (by omega) (by omega) hS
  rwa [txt_65535] at this

set_option maxRecDepth 100000 in
set_option maxHeartbeats 1000000 in
theorem awake_st {w0 w : World} (hS : St w0 w) : Calls Tryd.prog 21 #[] w fun e w' => e = .returned (.bool true) ∧ St w0 w' := by
  have HS := Lib.hid hS
  clear hS
  go_enter Tryd.func21, Tryd.ntmps21
  go_wp2_with (first
    | (go_at_call 15; ((with_reducible refine (lit_day HS.out).mono ?_); rintro e w' ⟨rfl, hs⟩; replace HS := Lib.hid hs; clear hs))
    | (go_at_call 15; ((with_reducible refine (lit_day0 HS.out).mono ?_); rintro e w' ⟨rfl, hs⟩; replace HS := Lib.hid hs; clear hs))
    | (go_at_call 32; ((with_reducible refine (lit_add12 HS.out).mono ?_); rintro e w' ⟨rfl, hs⟩; replace HS := Lib.hid hs; clear hs))
    | (go_at_call 32; ((with_reducible refine (lit_addm1 HS.out).mono ?_); rintro e w' ⟨rfl, hs⟩; replace HS := Lib.hid hs; clear hs))
    | (go_at_call 32; ((with_reducible refine (lit_add1 HS.out).mono ?_); rintro e w' ⟨rfl, hs⟩; replace HS := Lib.hid hs; clear hs))
    | (go_at_call 33; ((with_reducible refine (lit_btw HS.out).mono ?_); rintro e w' ⟨rfl, hs⟩; replace HS := Lib.hid hs; clear hs))
    | (go_at_call 33; ((with_reducible refine (lit_btw' HS.out).mono ?_); rintro e w' ⟨rfl, hs⟩; replace HS := Lib.hid hs; clear hs))
    | (go_at_call 34; ((with_reducible refine (lit_age0 HS.out).mono ?_); rintro e w' ⟨rfl, hs⟩; replace HS := Lib.hid hs; clear hs))
    | (go_at_call 34; ((with_reducible refine (lit_age1 HS.out).mono ?_); rintro e w' ⟨rfl, hs⟩; replace HS := Lib.hid hs; clear hs))
    | (go_at_call 30; ((with_reducible refine (lit_month HS.out).mono ?_); rintro e w' ⟨rfl, hs⟩; replace HS := Lib.hid hs; clear hs))
    | (go_at_call 31; ((with_reducible refine (lit_first HS.out).mono ?_); rintro e w' ⟨rfl, hs⟩; replace HS := Lib.hid hs; clear hs))
    | (go_at_call 29; ((with_reducible refine (lit_week HS.out).mono ?_); rintro e w' ⟨rfl, hs⟩; replace HS := Lib.hid hs; clear hs))
    | (go_at_call 35; ((with_reducible refine (lit_text HS.out).mono ?_); rintro e w' ⟨rfl, hs⟩; replace HS := Lib.hid hs; clear hs))
    | (go_at_call 35; ((with_reducible refine (lit_text' HS.out).mono ?_); rintro e w' ⟨rfl, hs⟩; replace HS := Lib.hid hs; clear hs)))
  go_ret
  exact ⟨rfl, HS.out⟩

end Go.Proofs.YtmjmpdbkijhkiaaDoor
