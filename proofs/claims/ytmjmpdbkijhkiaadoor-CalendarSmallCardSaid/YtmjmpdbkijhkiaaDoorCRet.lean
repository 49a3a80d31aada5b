/-
A call's answer, for every world in which the table stands; the functions' answers in that form; 'Pick'.
-/
import Derived.Test.YtmjmpdbkijhkiaaDoorCAwake
namespace Go.Proofs.YtmjmpdbkijhkiaaDoor
open Go.RowKit

/-- Called so, in whatever world, the function answers v. -/
def Ret (f : Nat) (args : Array Value) (v : Value) : Prop := ∀ w0 w : World, St w0 w → Calls Tryd.prog f args w fun e w' => e = .returned v ∧ St w0 w'

theorem Ret.go {f : Nat} {args : Array Value} {v : Value} (h : Ret f args v) {w0 w : World} (hS : St w0 w) : Calls Tryd.prog f args w fun e w' => e = .returned v ∧ St w0 w' := h w0 w hS

theorem r_awake : Ret 21 #[] (.bool true) := fun _ _ h => awake_st h
theorem r_leap (y : Int) : Ret 17 #[.int .i64 y] (.bool (Cal.leapB y)) := fun _ w h => (Leap_any y w).mono fun _ _ ⟨he, hw⟩ => ⟨he, hw ▸ h⟩
theorem r_len (y m : Int) (hm : I64 m) : Ret 19 #[.int .i64 y, .int .i64 m] (.int .i64 (Cal.len y m)) := fun _ w h => (Len_any y m hm w h.at).mono fun _ _ ⟨he, hw⟩ => ⟨he, hw ▸ h⟩
theorem r_day_yes (y m d : Int) (h : Cal.dateB y m d = true) : Ret 15 #[.int .i64 y, .int .i64 m, .int .i64 d] (.tuple #[.int .i64 (Cal.dayN y m d), .int .i64 0]) := fun _ _ hS => Day_yes y m d h hS
theorem r_day_no (y m d : Int) (hm : I64 m) (h : Cal.dateB y m d = false) : Ret 15 #[.int .i64 y, .int .i64 m, .int .i64 d] (.tuple #[.int .i64 0, .int .i64 2]) := fun _ _ hS => Day_no y m d hm h hS
theorem r_ymd_yes (d : Int) (h0 : 0 ≤ d) (h1 : d < 65536) : Ret 28 #[.int .i64 d] (.tuple #[.int .i64 (Cal.yr (Cal.mon d)), .int .i64 (Cal.mo (Cal.mon d)), .int .i64 (Cal.dom d), .int .i64 0]) := fun _ _ hS => YMD_yes d h0 h1 hS
theorem r_ymd_no (d : Int) (h : d < 0 ∨ 65536 ≤ d) : Ret 28 #[.int .i64 d] (.tuple #[.int .i64 0, .int .i64 0, .int .i64 0, .int .i64 2]) := fun _ _ hS => YMD_no d h hS
theorem r_month_yes (d : Int) (h0 : 0 ≤ d) (h1 : d < 65536) : Ret 30 #[.int .i64 d] (.tuple #[.int .i64 (Cal.mon d), .int .i64 0]) := fun _ _ hS => Month_yes d h0 h1 hS
theorem r_month_no (d : Int) (h : d < 0 ∨ 65536 ≤ d) : Ret 30 #[.int .i64 d] (.tuple #[.int .i64 0, .int .i64 2]) := fun _ _ hS => Month_no d h hS
theorem r_week_yes (d : Int) (h0 : 0 ≤ d) (h1 : d < 65536) : Ret 29 #[.int .i64 d] (.tuple #[.int .i64 (d % 7 + 1), .int .i64 0]) := fun _ _ hS => Weekday_yes d h0 h1 hS
theorem r_week_no (d : Int) (h : d < 0 ∨ 65536 ≤ d) : Ret 29 #[.int .i64 d] (.tuple #[.int .i64 0, .int .i64 2]) := fun _ _ hS => Weekday_no d h hS
theorem r_first_yes (n : Int) (h0 : 0 ≤ n) (h1 : n < 2154) : Ret 31 #[.int .i64 n] (.tuple #[.int .i64 (Cal.start n), .int .i64 0]) := fun _ _ hS => First_yes n h0 h1 hS
theorem r_first_no (n : Int) (h : n < 0 ∨ 2154 ≤ n) : Ret 31 #[.int .i64 n] (.tuple #[.int .i64 0, .int .i64 2]) := fun _ _ hS => First_no n h hS
theorem r_add_yes (d n : Int) (h0 : 0 ≤ d) (h1 : d < 65536) (h : Cal.laterB d n = true) : Ret 32 #[.int .i64 d, .int .i64 n] (.tuple #[.int .i64 (Cal.laterN d n), .int .i64 0]) := fun _ _ hS => Add_yes d n h0 h1 h hS
theorem r_add_err (d n : Int) (h0 : 0 ≤ d) (h1 : d < 65536) (h : Cal.laterB d n = false) : Ret 32 #[.int .i64 d, .int .i64 n] (.tuple #[.int .i64 0, .int .i64 30]) := fun _ _ hS => Add_err d n h0 h1 h hS
theorem r_add_no (d n : Int) (h : d < 0 ∨ 65536 ≤ d) : Ret 32 #[.int .i64 d, .int .i64 n] (.tuple #[.int .i64 0, .int .i64 2]) := fun _ _ hS => Add_no d n h hS
theorem r_btw_le (a b : Int) (h0 : 0 ≤ a) (h : a ≤ b) (h1 : b < 65536) : Ret 33 #[.int .i64 a, .int .i64 b] (.tuple #[.int .i64 (Cal.whole a b), .int .i64 0]) := fun _ _ hS => Between_le a b h0 h h1 hS
theorem r_btw_gt (a b : Int) (h0 : 0 ≤ b) (h : b < a) (h1 : a < 65536) : Ret 33 #[.int .i64 a, .int .i64 b] (.tuple #[.int .i64 (-Cal.whole b a), .int .i64 0]) := fun _ _ hS => Between_gt a b h0 h h1 hS
theorem r_btw_no (a b : Int) (h : (a < 0 ∨ 65536 ≤ a) ∨ (b < 0 ∨ 65536 ≤ b)) : Ret 33 #[.int .i64 a, .int .i64 b] (.tuple #[.int .i64 0, .int .i64 2]) := fun _ _ hS => Between_no a b h hS
theorem r_age_yes (a b : Int) (h0 : 0 ≤ a) (h : a ≤ b) (h1 : b < 65536) : Ret 34 #[.int .i64 a, .int .i64 b] (.tuple #[.int .i64 (Cal.whole a b / 12), .int .i64 0]) := fun _ _ hS => Age_yes a b h0 h h1 hS
theorem r_age_no (a b : Int) (h : (a < 0 ∨ 65536 ≤ a) ∨ (b < 0 ∨ 65536 ≤ b)) : Ret 34 #[.int .i64 a, .int .i64 b] (.tuple #[.int .i64 0, .int .i64 2]) := fun _ _ hS => Age_no a b h hS
theorem r_age_gt (a b : Int) (h0 : 0 ≤ b) (h : b < a) (h1 : a < 65536) : Ret 34 #[.int .i64 a, .int .i64 b] (.tuple #[.int .i64 0, .int .i64 2]) := fun _ _ hS => Age_gt a b h0 h h1 hS
theorem r_text_yes (d : Int) (h0 : 0 ≤ d) (h1 : d < 65536) : Ret 35 #[.int .i64 d] (.string (txt d)) := fun _ _ hS => Text_yes d h0 h1 hS
theorem r_text_no (d : Int) (h : d < 0 ∨ 65536 ≤ d) : Ret 35 #[.int .i64 d] (.string ByteArray.empty) := fun _ _ hS => Text_no d h hS

theorem Pick_any (x n : Int) (hn : 1 ≤ n) (hn2 : n ≤ 1000000000) (w : World) : Calls Tryd.prog 27 #[.int .i64 x, .int .i64 n] w fun e w' => e = .returned (.int .i64 (x % n)) ∧ w = w' := by
  have hb : -n < x.tmod n ∧ x.tmod n < n := ⟨Int.lt_tmod_of_pos _ (by omega), Int.tmod_lt_of_pos _ (by omega)⟩
  have hz : n ≠ 0 := by omega
  have hz' : ¬ n = 0 := hz
  by_cases h : x.tmod n < 0
  · have HE := Lib.hid (show x % n = x.tmod n + n by
      have h1 := Int.emod_nonneg x hz
      have h2 := Int.emod_lt_of_pos x (show 0 < n by omega)
      have h3 := Int.tmod_add_mul_tdiv x n
      have h4 := Int.emod_add_mul_ediv x n
      have h5 : x.tmod n + n = x % n + n * (x / n - x.tdiv n + 1) := by rw [Int.mul_add, Int.mul_sub]; omega
      have h6 : n * (x / n - x.tdiv n + 1) < n := by omega
      have h7 : -n < n * (x / n - x.tdiv n + 1) := by omega
      have h8 : x / n - x.tdiv n + 1 < 1 := Int.lt_of_mul_lt_mul_left (a := n) (by omega) (by omega)
      have h9 : -1 < x / n - x.tdiv n + 1 := Int.lt_of_mul_lt_mul_left (a := n) (by omega) (by omega)
      have : x / n - x.tdiv n + 1 = 0 := by omega
      rw [this] at h5
      omega)
    go_enter Tryd.func27, Tryd.ntmps27
    go_wp2
    go_ret
    exact ⟨by rw [HE.out]; rfl, rfl⟩
  · have HE := Lib.hid (show x % n = x.tmod n by
      have h1 := Int.emod_nonneg x hz
      have h2 := Int.emod_lt_of_pos x (show 0 < n by omega)
      have h3 := Int.tmod_add_mul_tdiv x n
      have h4 := Int.emod_add_mul_ediv x n
      have h5 : x.tmod n = x % n + n * (x / n - x.tdiv n) := by rw [Int.mul_sub]; omega
      have h6 : n * (x / n - x.tdiv n) < n := by omega
      have h7 : -n < n * (x / n - x.tdiv n) := by omega
      have h8 : x / n - x.tdiv n < 1 := Int.lt_of_mul_lt_mul_left (a := n) (by omega) (by omega)
      have h9 : -1 < x / n - x.tdiv n := Int.lt_of_mul_lt_mul_left (a := n) (by omega) (by omega)
      have : x / n - x.tdiv n = 0 := by omega
      rw [this] at h5
      omega)
    go_enter Tryd.func27, Tryd.ntmps27
    go_wp2
    go_ret
    exact ⟨by rw [HE.out]; rfl, rfl⟩

theorem r_pick (x n : Int) (hn : 1 ≤ n) (hn2 : n ≤ 1000000000) : Ret 27 #[.int .i64 x, .int .i64 n] (.int .i64 (x % n)) := fun _ w h => (Pick_any x n hn hn2 w).mono fun _ _ ⟨he, hw⟩ => ⟨he, hw ▸ h⟩

end Go.Proofs.YtmjmpdbkijhkiaaDoor
