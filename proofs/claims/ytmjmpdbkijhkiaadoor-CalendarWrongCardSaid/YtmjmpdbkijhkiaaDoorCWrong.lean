/-
'CalendarWrong', over what the functions answer.
-/
import Derived.Test.YtmjmpdbkijhkiaaDoorCRet
import Derived.Test.YtmjmpdbkijhkiaaDoorCLaid
namespace Go.Proofs.YtmjmpdbkijhkiaaDoor
open Go.RowKit

set_option maxRecDepth 100000 in
set_option maxHeartbeats 1000000 in
theorem Wrong_lo_lo (day month date T : Int) (_bd : I64 day) (_bm : I64 month) (_hd : day < 0) (_hm : month < 0) (_hT : 0 ≤ T ∧ T < 65536)
    (HP : Ret 27 #[.int .i64 date, .int .i64 65536] (.int .i64 T))
    (H1 : Ret 32 #[.int .i64 day, .int .i64 1] (.tuple #[.int .i64 0, .int .i64 2]))
    (H2 : Ret 33 #[.int .i64 day, .int .i64 T] (.tuple #[.int .i64 0, .int .i64 2]))
    (H3 : Ret 33 #[.int .i64 T, .int .i64 day] (.tuple #[.int .i64 0, .int .i64 2]))
    (H4 : Ret 34 #[.int .i64 day, .int .i64 T] (.tuple #[.int .i64 0, .int .i64 2]))
    (H5 : Ret 34 #[.int .i64 T, .int .i64 day] (.tuple #[.int .i64 0, .int .i64 2]))
    (H6 : Ret 30 #[.int .i64 day] (.tuple #[.int .i64 0, .int .i64 2]))
    (H7 : Ret 31 #[.int .i64 month] (.tuple #[.int .i64 0, .int .i64 2]))
    (H8 : Ret 15 #[.int .i64 2000, .int .i64 month, .int .i64 1] (.tuple #[.int .i64 0, .int .i64 2]))
    (H9 : Ret 15 #[.int .i64 day, .int .i64 1, .int .i64 1] (.tuple #[.int .i64 0, .int .i64 2]))
    (G1 : Ret 35 #[.int .i64 day] (.string ⟨#[]⟩))
    (G2 : Ret 19 #[.int .i64 2000, .int .i64 month] (.int .i64 0)) :
    Ret 14 #[.int .i64 day, .int .i64 month, .int .i64 date] (.bool true) := by
  intro w0 w hS
  have HS := Lib.hid hS
  clear hS
  go_enter Tryd.func14, Tryd.ntmps14
  go_wp2_with (first
    | (go_at_call 21; ((with_reducible refine (r_awake.go HS.out).mono ?_); rintro e w' ⟨rfl, hs⟩; replace HS := Lib.hid hs; clear hs))
    | (go_at_call 27; ((with_reducible refine (HP.go HS.out).mono ?_); rintro e w' ⟨rfl, hs⟩; replace HS := Lib.hid hs; clear hs))
    | (go_at_call 32; ((with_reducible refine (H1.go HS.out).mono ?_); rintro e w' ⟨rfl, hs⟩; replace HS := Lib.hid hs; clear hs))
    | (go_at_call 33; ((with_reducible refine (H2.go HS.out).mono ?_); rintro e w' ⟨rfl, hs⟩; replace HS := Lib.hid hs; clear hs))
    | (go_at_call 33; ((with_reducible refine (H3.go HS.out).mono ?_); rintro e w' ⟨rfl, hs⟩; replace HS := Lib.hid hs; clear hs))
    | (go_at_call 34; ((with_reducible refine (H4.go HS.out).mono ?_); rintro e w' ⟨rfl, hs⟩; replace HS := Lib.hid hs; clear hs))
    | (go_at_call 34; ((with_reducible refine (H5.go HS.out).mono ?_); rintro e w' ⟨rfl, hs⟩; replace HS := Lib.hid hs; clear hs))
    | (go_at_call 30; ((with_reducible refine (H6.go HS.out).mono ?_); rintro e w' ⟨rfl, hs⟩; replace HS := Lib.hid hs; clear hs))
    | (go_at_call 31; ((with_reducible refine (H7.go HS.out).mono ?_); rintro e w' ⟨rfl, hs⟩; replace HS := Lib.hid hs; clear hs))
    | (go_at_call 15; ((with_reducible refine (H8.go HS.out).mono ?_); rintro e w' ⟨rfl, hs⟩; replace HS := Lib.hid hs; clear hs))
    | (go_at_call 15; ((with_reducible refine (H9.go HS.out).mono ?_); rintro e w' ⟨rfl, hs⟩; replace HS := Lib.hid hs; clear hs))
    | (go_at_call 35; ((with_reducible refine (G1.go HS.out).mono ?_); rintro e w' ⟨rfl, hs⟩; replace HS := Lib.hid hs; clear hs))
    | (go_at_call 19; ((with_reducible refine (G2.go HS.out).mono ?_); rintro e w' ⟨rfl, hs⟩; replace HS := Lib.hid hs; clear hs)))
  go_ret
  exact ⟨rfl, HS.out⟩

set_option maxRecDepth 100000 in
set_option maxHeartbeats 1000000 in
theorem Wrong_lo_hi (day month date T : Int) (_bd : I64 day) (_bm : I64 month) (_hd : day < 0) (_hm : 2154 ≤ month) (_hT : 0 ≤ T ∧ T < 65536)
    (HP : Ret 27 #[.int .i64 date, .int .i64 65536] (.int .i64 T))
    (H1 : Ret 32 #[.int .i64 day, .int .i64 1] (.tuple #[.int .i64 0, .int .i64 2]))
    (H2 : Ret 33 #[.int .i64 day, .int .i64 T] (.tuple #[.int .i64 0, .int .i64 2]))
    (H3 : Ret 33 #[.int .i64 T, .int .i64 day] (.tuple #[.int .i64 0, .int .i64 2]))
    (H4 : Ret 34 #[.int .i64 day, .int .i64 T] (.tuple #[.int .i64 0, .int .i64 2]))
    (H5 : Ret 34 #[.int .i64 T, .int .i64 day] (.tuple #[.int .i64 0, .int .i64 2]))
    (H6 : Ret 30 #[.int .i64 day] (.tuple #[.int .i64 0, .int .i64 2]))
    (H7 : Ret 31 #[.int .i64 month] (.tuple #[.int .i64 0, .int .i64 2]))
    (H8 : Ret 15 #[.int .i64 2000, .int .i64 month, .int .i64 1] (.tuple #[.int .i64 0, .int .i64 2]))
    (H9 : Ret 15 #[.int .i64 day, .int .i64 1, .int .i64 1] (.tuple #[.int .i64 0, .int .i64 2]))
    (G1 : Ret 35 #[.int .i64 day] (.string ⟨#[]⟩))
    (G2 : Ret 19 #[.int .i64 2000, .int .i64 month] (.int .i64 0)) :
    Ret 14 #[.int .i64 day, .int .i64 month, .int .i64 date] (.bool true) := by
  intro w0 w hS
  have HS := Lib.hid hS
  clear hS
  go_enter Tryd.func14, Tryd.ntmps14
  go_wp2_with (first
    | (go_at_call 21; ((with_reducible refine (r_awake.go HS.out).mono ?_); rintro e w' ⟨rfl, hs⟩; replace HS := Lib.hid hs; clear hs))
    | (go_at_call 27; ((with_reducible refine (HP.go HS.out).mono ?_); rintro e w' ⟨rfl, hs⟩; replace HS := Lib.hid hs; clear hs))
    | (go_at_call 32; ((with_reducible refine (H1.go HS.out).mono ?_); rintro e w' ⟨rfl, hs⟩; replace HS := Lib.hid hs; clear hs))
    | (go_at_call 33; ((with_reducible refine (H2.go HS.out).mono ?_); rintro e w' ⟨rfl, hs⟩; replace HS := Lib.hid hs; clear hs))
    | (go_at_call 33; ((with_reducible refine (H3.go HS.out).mono ?_); rintro e w' ⟨rfl, hs⟩; replace HS := Lib.hid hs; clear hs))
    | (go_at_call 34; ((with_reducible refine (H4.go HS.out).mono ?_); rintro e w' ⟨rfl, hs⟩; replace HS := Lib.hid hs; clear hs))
    | (go_at_call 34; ((with_reducible refine (H5.go HS.out).mono ?_); rintro e w' ⟨rfl, hs⟩; replace HS := Lib.hid hs; clear hs))
    | (go_at_call 30; ((with_reducible refine (H6.go HS.out).mono ?_); rintro e w' ⟨rfl, hs⟩; replace HS := Lib.hid hs; clear hs))
    | (go_at_call 31; ((with_reducible refine (H7.go HS.out).mono ?_); rintro e w' ⟨rfl, hs⟩; replace HS := Lib.hid hs; clear hs))
    | (go_at_call 15; ((with_reducible refine (H8.go HS.out).mono ?_); rintro e w' ⟨rfl, hs⟩; replace HS := Lib.hid hs; clear hs))
    | (go_at_call 15; ((with_reducible refine (H9.go HS.out).mono ?_); rintro e w' ⟨rfl, hs⟩; replace HS := Lib.hid hs; clear hs))
    | (go_at_call 35; ((with_reducible refine (G1.go HS.out).mono ?_); rintro e w' ⟨rfl, hs⟩; replace HS := Lib.hid hs; clear hs))
    | (go_at_call 19; ((with_reducible refine (G2.go HS.out).mono ?_); rintro e w' ⟨rfl, hs⟩; replace HS := Lib.hid hs; clear hs)))
  go_ret
  exact ⟨rfl, HS.out⟩

set_option maxRecDepth 100000 in
set_option maxHeartbeats 1000000 in
theorem Wrong_lo_in (day month date T : Int) (_bd : I64 day) (_bm : I64 month) (_hd : day < 0) (_hm0 : 0 ≤ month) (_hm : month < 2154) (_hT : 0 ≤ T ∧ T < 65536)
    (HP : Ret 27 #[.int .i64 date, .int .i64 65536] (.int .i64 T))
    (H1 : Ret 32 #[.int .i64 day, .int .i64 1] (.tuple #[.int .i64 0, .int .i64 2]))
    (H2 : Ret 33 #[.int .i64 day, .int .i64 T] (.tuple #[.int .i64 0, .int .i64 2]))
    (H3 : Ret 33 #[.int .i64 T, .int .i64 day] (.tuple #[.int .i64 0, .int .i64 2]))
    (H4 : Ret 34 #[.int .i64 day, .int .i64 T] (.tuple #[.int .i64 0, .int .i64 2]))
    (H5 : Ret 34 #[.int .i64 T, .int .i64 day] (.tuple #[.int .i64 0, .int .i64 2]))
    (H6 : Ret 30 #[.int .i64 day] (.tuple #[.int .i64 0, .int .i64 2]))
    (H7 : Ret 31 #[.int .i64 (month + 2154)] (.tuple #[.int .i64 0, .int .i64 2]))
    (H8 : Ret 15 #[.int .i64 2000, .int .i64 (month + 2154), .int .i64 1] (.tuple #[.int .i64 0, .int .i64 2]))
    (H9 : Ret 15 #[.int .i64 day, .int .i64 1, .int .i64 1] (.tuple #[.int .i64 0, .int .i64 2]))
    (G1 : Ret 35 #[.int .i64 day] (.string ⟨#[]⟩))
    (G2 : Ret 19 #[.int .i64 2000, .int .i64 (month + 2154)] (.int .i64 0)) :
    Ret 14 #[.int .i64 day, .int .i64 month, .int .i64 date] (.bool true) := by
  intro w0 w hS
  have HS := Lib.hid hS
  clear hS
  go_enter Tryd.func14, Tryd.ntmps14
  go_wp2_with (first
    | (go_at_call 21; ((with_reducible refine (r_awake.go HS.out).mono ?_); rintro e w' ⟨rfl, hs⟩; replace HS := Lib.hid hs; clear hs))
    | (go_at_call 27; ((with_reducible refine (HP.go HS.out).mono ?_); rintro e w' ⟨rfl, hs⟩; replace HS := Lib.hid hs; clear hs))
    | (go_at_call 32; ((with_reducible refine (H1.go HS.out).mono ?_); rintro e w' ⟨rfl, hs⟩; replace HS := Lib.hid hs; clear hs))
    | (go_at_call 33; ((with_reducible refine (H2.go HS.out).mono ?_); rintro e w' ⟨rfl, hs⟩; replace HS := Lib.hid hs; clear hs))
    | (go_at_call 33; ((with_reducible refine (H3.go HS.out).mono ?_); rintro e w' ⟨rfl, hs⟩; replace HS := Lib.hid hs; clear hs))
    | (go_at_call 34; ((with_reducible refine (H4.go HS.out).mono ?_); rintro e w' ⟨rfl, hs⟩; replace HS := Lib.hid hs; clear hs))
    | (go_at_call 34; ((with_reducible refine (H5.go HS.out).mono ?_); rintro e w' ⟨rfl, hs⟩; replace HS := Lib.hid hs; clear hs))
    | (go_at_call 30; ((with_reducible refine (H6.go HS.out).mono ?_); rintro e w' ⟨rfl, hs⟩; replace HS := Lib.hid hs; clear hs))
    | (go_at_call 31; ((with_reducible refine (H7.go HS.out).mono ?_); rintro e w' ⟨rfl, hs⟩; replace HS := Lib.hid hs; clear hs))
    | (go_at_call 15; ((with_reducible refine (H8.go HS.out).mono ?_); rintro e w' ⟨rfl, hs⟩; replace HS := Lib.hid hs; clear hs))
    | (go_at_call 15; ((with_reducible refine (H9.go HS.out).mono ?_); rintro e w' ⟨rfl, hs⟩; replace HS := Lib.hid hs; clear hs))
    | (go_at_call 35; ((with_reducible refine (G1.go HS.out).mono ?_); rintro e w' ⟨rfl, hs⟩; replace HS := Lib.hid hs; clear hs))
    | (go_at_call 19; ((with_reducible refine (G2.go HS.out).mono ?_); rintro e w' ⟨rfl, hs⟩; replace HS := Lib.hid hs; clear hs)))
  go_ret
  exact ⟨rfl, HS.out⟩

set_option maxRecDepth 100000 in
set_option maxHeartbeats 1000000 in
theorem Wrong_hi_lo (day month date T : Int) (_bd : I64 day) (_bm : I64 month) (_hd : 65536 ≤ day) (_hm : month < 0) (_hT : 0 ≤ T ∧ T < 65536)
    (HP : Ret 27 #[.int .i64 date, .int .i64 65536] (.int .i64 T))
    (H1 : Ret 32 #[.int .i64 day, .int .i64 1] (.tuple #[.int .i64 0, .int .i64 2]))
    (H2 : Ret 33 #[.int .i64 day, .int .i64 T] (.tuple #[.int .i64 0, .int .i64 2]))
    (H3 : Ret 33 #[.int .i64 T, .int .i64 day] (.tuple #[.int .i64 0, .int .i64 2]))
    (H4 : Ret 34 #[.int .i64 day, .int .i64 T] (.tuple #[.int .i64 0, .int .i64 2]))
    (H5 : Ret 34 #[.int .i64 T, .int .i64 day] (.tuple #[.int .i64 0, .int .i64 2]))
    (H6 : Ret 30 #[.int .i64 day] (.tuple #[.int .i64 0, .int .i64 2]))
    (H7 : Ret 31 #[.int .i64 month] (.tuple #[.int .i64 0, .int .i64 2]))
    (H8 : Ret 15 #[.int .i64 2000, .int .i64 month, .int .i64 1] (.tuple #[.int .i64 0, .int .i64 2]))
    (H9 : Ret 15 #[.int .i64 day, .int .i64 1, .int .i64 1] (.tuple #[.int .i64 0, .int .i64 2]))
    (G1 : Ret 35 #[.int .i64 day] (.string ⟨#[]⟩))
    (G2 : Ret 19 #[.int .i64 2000, .int .i64 month] (.int .i64 0)) :
    Ret 14 #[.int .i64 day, .int .i64 month, .int .i64 date] (.bool true) := by
  intro w0 w hS
  have HS := Lib.hid hS
  clear hS
  go_enter Tryd.func14, Tryd.ntmps14
  go_wp2_with (first
    | (go_at_call 21; ((with_reducible refine (r_awake.go HS.out).mono ?_); rintro e w' ⟨rfl, hs⟩; replace HS := Lib.hid hs; clear hs))
    | (go_at_call 27; ((with_reducible refine (HP.go HS.out).mono ?_); rintro e w' ⟨rfl, hs⟩; replace HS := Lib.hid hs; clear hs))
    | (go_at_call 32; ((with_reducible refine (H1.go HS.out).mono ?_); rintro e w' ⟨rfl, hs⟩; replace HS := Lib.hid hs; clear hs))
    | (go_at_call 33; ((with_reducible refine (H2.go HS.out).mono ?_); rintro e w' ⟨rfl, hs⟩; replace HS := Lib.hid hs; clear hs))
    | (go_at_call 33; ((with_reducible refine (H3.go HS.out).mono ?_); rintro e w' ⟨rfl, hs⟩; replace HS := Lib.hid hs; clear hs))
    | (go_at_call 34; ((with_reducible refine (H4.go HS.out).mono ?_); rintro e w' ⟨rfl, hs⟩; replace HS := Lib.hid hs; clear hs))
    | (go_at_call 34; ((with_reducible refine (H5.go HS.out).mono ?_); rintro e w' ⟨rfl, hs⟩; replace HS := Lib.hid hs; clear hs))
    | (go_at_call 30; ((with_reducible refine (H6.go HS.out).mono ?_); rintro e w' ⟨rfl, hs⟩; replace HS := Lib.hid hs; clear hs))
    | (go_at_call 31; ((with_reducible refine (H7.go HS.out).mono ?_); rintro e w' ⟨rfl, hs⟩; replace HS := Lib.hid hs; clear hs))
    | (go_at_call 15; ((with_reducible refine (H8.go HS.out).mono ?_); rintro e w' ⟨rfl, hs⟩; replace HS := Lib.hid hs; clear hs))
    | (go_at_call 15; ((with_reducible refine (H9.go HS.out).mono ?_); rintro e w' ⟨rfl, hs⟩; replace HS := Lib.hid hs; clear hs))
    | (go_at_call 35; ((with_reducible refine (G1.go HS.out).mono ?_); rintro e w' ⟨rfl, hs⟩; replace HS := Lib.hid hs; clear hs))
    | (go_at_call 19; ((with_reducible refine (G2.go HS.out).mono ?_); rintro e w' ⟨rfl, hs⟩; replace HS := Lib.hid hs; clear hs)))
  go_ret
  exact ⟨rfl, HS.out⟩

set_option maxRecDepth 100000 in
set_option maxHeartbeats 1000000 in
theorem Wrong_hi_hi (day month date T : Int) (_bd : I64 day) (_bm : I64 month) (_hd : 65536 ≤ day) (_hm : 2154 ≤ month) (_hT : 0 ≤ T ∧ T < 65536)
    (HP : Ret 27 #[.int .i64 date, .int .i64 65536] (.int .i64 T))
    (H1 : Ret 32 #[.int .i64 day, .int .i64 1] (.tuple #[.int .i64 0, .int .i64 2]))
    (H2 : Ret 33 #[.int .i64 day, .int .i64 T] (.tuple #[.int .i64 0, .int .i64 2]))
    (H3 : Ret 33 #[.int .i64 T, .int .i64 day] (.tuple #[.int .i64 0, .int .i64 2]))
    (H4 : Ret 34 #[.int .i64 day, .int .i64 T] (.tuple #[.int .i64 0, .int .i64 2]))
    (H5 : Ret 34 #[.int .i64 T, .int .i64 day] (.tuple #[.int .i64 0, .int .i64 2]))
    (H6 : Ret 30 #[.int .i64 day] (.tuple #[.int .i64 0, .int .i64 2]))
    (H7 : Ret 31 #[.int .i64 month] (.tuple #[.int .i64 0, .int .i64 2]))
    (H8 : Ret 15 #[.int .i64 2000, .int .i64 month, .int .i64 1] (.tuple #[.int .i64 0, .int .i64 2]))
    (H9 : Ret 15 #[.int .i64 day, .int .i64 1, .int .i64 1] (.tuple #[.int .i64 0, .int .i64 2]))
    (G1 : Ret 35 #[.int .i64 day] (.string ⟨#[]⟩))
    (G2 : Ret 19 #[.int .i64 2000, .int .i64 month] (.int .i64 0)) :
    Ret 14 #[.int .i64 day, .int .i64 month, .int .i64 date] (.bool true) := by
  intro w0 w hS
  have HS := Lib.hid hS
  clear hS
  go_enter Tryd.func14, Tryd.ntmps14
  go_wp2_with (first
    | (go_at_call 21; ((with_reducible refine (r_awake.go HS.out).mono ?_); rintro e w' ⟨rfl, hs⟩; replace HS := Lib.hid hs; clear hs))
    | (go_at_call 27; ((with_reducible refine (HP.go HS.out).mono ?_); rintro e w' ⟨rfl, hs⟩; replace HS := Lib.hid hs; clear hs))
    | (go_at_call 32; ((with_reducible refine (H1.go HS.out).mono ?_); rintro e w' ⟨rfl, hs⟩; replace HS := Lib.hid hs; clear hs))
    | (go_at_call 33; ((with_reducible refine (H2.go HS.out).mono ?_); rintro e w' ⟨rfl, hs⟩; replace HS := Lib.hid hs; clear hs))
    | (go_at_call 33; ((with_reducible refine (H3.go HS.out).mono ?_); rintro e w' ⟨rfl, hs⟩; replace HS := Lib.hid hs; clear hs))
    | (go_at_call 34; ((with_reducible refine (H4.go HS.out).mono ?_); rintro e w' ⟨rfl, hs⟩; replace HS := Lib.hid hs; clear hs))
    | (go_at_call 34; ((with_reducible refine (H5.go HS.out).mono ?_); rintro e w' ⟨rfl, hs⟩; replace HS := Lib.hid hs; clear hs))
    | (go_at_call 30; ((with_reducible refine (H6.go HS.out).mono ?_); rintro e w' ⟨rfl, hs⟩; replace HS := Lib.hid hs; clear hs))
    | (go_at_call 31; ((with_reducible refine (H7.go HS.out).mono ?_); rintro e w' ⟨rfl, hs⟩; replace HS := Lib.hid hs; clear hs))
    | (go_at_call 15; ((with_reducible refine (H8.go HS.out).mono ?_); rintro e w' ⟨rfl, hs⟩; replace HS := Lib.hid hs; clear hs))
    | (go_at_call 15; ((with_reducible refine (H9.go HS.out).mono ?_); rintro e w' ⟨rfl, hs⟩; replace HS := Lib.hid hs; clear hs))
    | (go_at_call 35; ((with_reducible refine (G1.go HS.out).mono ?_); rintro e w' ⟨rfl, hs⟩; replace HS := Lib.hid hs; clear hs))
    | (go_at_call 19; ((with_reducible refine (G2.go HS.out).mono ?_); rintro e w' ⟨rfl, hs⟩; replace HS := Lib.hid hs; clear hs)))
  go_ret
  exact ⟨rfl, HS.out⟩

set_option maxRecDepth 100000 in
set_option maxHeartbeats 1000000 in
theorem Wrong_hi_in (day month date T : Int) (_bd : I64 day) (_bm : I64 month) (_hd : 65536 ≤ day) (_hm0 : 0 ≤ month) (_hm : month < 2154) (_hT : 0 ≤ T ∧ T < 65536)
    (HP : Ret 27 #[.int .i64 date, .int .i64 65536] (.int .i64 T))
    (H1 : Ret 32 #[.int .i64 day, .int .i64 1] (.tuple #[.int .i64 0, .int .i64 2]))
    (H2 : Ret 33 #[.int .i64 day, .int .i64 T] (.tuple #[.int .i64 0, .int .i64 2]))
    (H3 : Ret 33 #[.int .i64 T, .int .i64 day] (.tuple #[.int .i64 0, .int .i64 2]))
    (H4 : Ret 34 #[.int .i64 day, .int .i64 T] (.tuple #[.int .i64 0, .int .i64 2]))
    (H5 : Ret 34 #[.int .i64 T, .int .i64 day] (.tuple #[.int .i64 0, .int .i64 2]))
    (H6 : Ret 30 #[.int .i64 day] (.tuple #[.int .i64 0, .int .i64 2]))
    (H7 : Ret 31 #[.int .i64 (month + 2154)] (.tuple #[.int .i64 0, .int .i64 2]))
    (H8 : Ret 15 #[.int .i64 2000, .int .i64 (month + 2154), .int .i64 1] (.tuple #[.int .i64 0, .int .i64 2]))
    (H9 : Ret 15 #[.int .i64 day, .int .i64 1, .int .i64 1] (.tuple #[.int .i64 0, .int .i64 2]))
    (G1 : Ret 35 #[.int .i64 day] (.string ⟨#[]⟩))
    (G2 : Ret 19 #[.int .i64 2000, .int .i64 (month + 2154)] (.int .i64 0)) :
    Ret 14 #[.int .i64 day, .int .i64 month, .int .i64 date] (.bool true) := by
  intro w0 w hS
  have HS := Lib.hid hS
  clear hS
  go_enter Tryd.func14, Tryd.ntmps14
  go_wp2_with (first
    | (go_at_call 21; ((with_reducible refine (r_awake.go HS.out).mono ?_); rintro e w' ⟨rfl, hs⟩; replace HS := Lib.hid hs; clear hs))
    | (go_at_call 27; ((with_reducible refine (HP.go HS.out).mono ?_); rintro e w' ⟨rfl, hs⟩; replace HS := Lib.hid hs; clear hs))
    | (go_at_call 32; ((with_reducible refine (H1.go HS.out).mono ?_); rintro e w' ⟨rfl, hs⟩; replace HS := Lib.hid hs; clear hs))
    | (go_at_call 33; ((with_reducible refine (H2.go HS.out).mono ?_); rintro e w' ⟨rfl, hs⟩; replace HS := Lib.hid hs; clear hs))
    | (go_at_call 33; ((with_reducible refine (H3.go HS.out).mono ?_); rintro e w' ⟨rfl, hs⟩; replace HS := Lib.hid hs; clear hs))
    | (go_at_call 34; ((with_reducible refine (H4.go HS.out).mono ?_); rintro e w' ⟨rfl, hs⟩; replace HS := Lib.hid hs; clear hs))
    | (go_at_call 34; ((with_reducible refine (H5.go HS.out).mono ?_); rintro e w' ⟨rfl, hs⟩; replace HS := Lib.hid hs; clear hs))
    | (go_at_call 30; ((with_reducible refine (H6.go HS.out).mono ?_); rintro e w' ⟨rfl, hs⟩; replace HS := Lib.hid hs; clear hs))
    | (go_at_call 31; ((with_reducible refine (H7.go HS.out).mono ?_); rintro e w' ⟨rfl, hs⟩; replace HS := Lib.hid hs; clear hs))
    | (go_at_call 15; ((with_reducible refine (H8.go HS.out).mono ?_); rintro e w' ⟨rfl, hs⟩; replace HS := Lib.hid hs; clear hs))
    | (go_at_call 15; ((with_reducible refine (H9.go HS.out).mono ?_); rintro e w' ⟨rfl, hs⟩; replace HS := Lib.hid hs; clear hs))
    | (go_at_call 35; ((with_reducible refine (G1.go HS.out).mono ?_); rintro e w' ⟨rfl, hs⟩; replace HS := Lib.hid hs; clear hs))
    | (go_at_call 19; ((with_reducible refine (G2.go HS.out).mono ?_); rintro e w' ⟨rfl, hs⟩; replace HS := Lib.hid hs; clear hs)))
  go_ret
  exact ⟨rfl, HS.out⟩

set_option maxRecDepth 100000 in
set_option maxHeartbeats 1000000 in
theorem Wrong_in_lo (day month date T : Int) (_bd : I64 day) (_bm : I64 month) (_hd0 : 0 ≤ day) (_hd : day < 65536) (_hm : month < 0) (_hT : 0 ≤ T ∧ T < 65536)
    (HP : Ret 27 #[.int .i64 date, .int .i64 65536] (.int .i64 T))
    (H1 : Ret 32 #[.int .i64 (day - 65536), .int .i64 1] (.tuple #[.int .i64 0, .int .i64 2]))
    (H2 : Ret 33 #[.int .i64 (day - 65536), .int .i64 T] (.tuple #[.int .i64 0, .int .i64 2]))
    (H3 : Ret 33 #[.int .i64 T, .int .i64 (day - 65536)] (.tuple #[.int .i64 0, .int .i64 2]))
    (H4 : Ret 34 #[.int .i64 (day - 65536), .int .i64 T] (.tuple #[.int .i64 0, .int .i64 2]))
    (H5 : Ret 34 #[.int .i64 T, .int .i64 (day - 65536)] (.tuple #[.int .i64 0, .int .i64 2]))
    (H6 : Ret 30 #[.int .i64 (day - 65536)] (.tuple #[.int .i64 0, .int .i64 2]))
    (H7 : Ret 31 #[.int .i64 month] (.tuple #[.int .i64 0, .int .i64 2]))
    (H8 : Ret 15 #[.int .i64 2000, .int .i64 month, .int .i64 1] (.tuple #[.int .i64 0, .int .i64 2]))
    (H9 : Ret 15 #[.int .i64 (day - 65536), .int .i64 1, .int .i64 1] (.tuple #[.int .i64 0, .int .i64 2]))
    (G1 : Ret 35 #[.int .i64 (day - 65536)] (.string ⟨#[]⟩))
    (G2 : Ret 19 #[.int .i64 2000, .int .i64 month] (.int .i64 0)) :
    Ret 14 #[.int .i64 day, .int .i64 month, .int .i64 date] (.bool true) := by
  intro w0 w hS
  have HS := Lib.hid hS
  clear hS
  go_enter Tryd.func14, Tryd.ntmps14
  go_wp2_with (first
    | (go_at_call 21; ((with_reducible refine (r_awake.go HS.out).mono ?_); rintro e w' ⟨rfl, hs⟩; replace HS := Lib.hid hs; clear hs))
    | (go_at_call 27; ((with_reducible refine (HP.go HS.out).mono ?_); rintro e w' ⟨rfl, hs⟩; replace HS := Lib.hid hs; clear hs))
    | (go_at_call 32; ((with_reducible refine (H1.go HS.out).mono ?_); rintro e w' ⟨rfl, hs⟩; replace HS := Lib.hid hs; clear hs))
    | (go_at_call 33; ((with_reducible refine (H2.go HS.out).mono ?_); rintro e w' ⟨rfl, hs⟩; replace HS := Lib.hid hs; clear hs))
    | (go_at_call 33; ((with_reducible refine (H3.go HS.out).mono ?_); rintro e w' ⟨rfl, hs⟩; replace HS := Lib.hid hs; clear hs))
    | (go_at_call 34; ((with_reducible refine (H4.go HS.out).mono ?_); rintro e w' ⟨rfl, hs⟩; replace HS := Lib.hid hs; clear hs))
    | (go_at_call 34; ((with_reducible refine (H5.go HS.out).mono ?_); rintro e w' ⟨rfl, hs⟩; replace HS := Lib.hid hs; clear hs))
    | (go_at_call 30; ((with_reducible refine (H6.go HS.out).mono ?_); rintro e w' ⟨rfl, hs⟩; replace HS := Lib.hid hs; clear hs))
    | (go_at_call 31; ((with_reducible refine (H7.go HS.out).mono ?_); rintro e w' ⟨rfl, hs⟩; replace HS := Lib.hid hs; clear hs))
    | (go_at_call 15; ((with_reducible refine (H8.go HS.out).mono ?_); rintro e w' ⟨rfl, hs⟩; replace HS := Lib.hid hs; clear hs))
    | (go_at_call 15; ((with_reducible refine (H9.go HS.out).mono ?_); rintro e w' ⟨rfl, hs⟩; replace HS := Lib.hid hs; clear hs))
    | (go_at_call 35; ((with_reducible refine (G1.go HS.out).mono ?_); rintro e w' ⟨rfl, hs⟩; replace HS := Lib.hid hs; clear hs))
    | (go_at_call 19; ((with_reducible refine (G2.go HS.out).mono ?_); rintro e w' ⟨rfl, hs⟩; replace HS := Lib.hid hs; clear hs)))
  go_ret
  exact ⟨rfl, HS.out⟩

set_option maxRecDepth 100000 in
set_option maxHeartbeats 1000000 in
theorem Wrong_in_hi (day month date T : Int) (_bd : I64 day) (_bm : I64 month) (_hd0 : 0 ≤ day) (_hd : day < 65536) (_hm : 2154 ≤ month) (_hT : 0 ≤ T ∧ T < 65536)
    (HP : Ret 27 #[.int .i64 date, .int .i64 65536] (.int .i64 T))
    (H1 : Ret 32 #[.int .i64 (day - 65536), .int .i64 1] (.tuple #[.int .i64 0, .int .i64 2]))
    (H2 : Ret 33 #[.int .i64 (day - 65536), .int .i64 T] (.tuple #[.int .i64 0, .int .i64 2]))
    (H3 : Ret 33 #[.int .i64 T, .int .i64 (day - 65536)] (.tuple #[.int .i64 0, .int .i64 2]))
    (H4 : Ret 34 #[.int .i64 (day - 65536), .int .i64 T] (.tuple #[.int .i64 0, .int .i64 2]))
    (H5 : Ret 34 #[.int .i64 T, .int .i64 (day - 65536)] (.tuple #[.int .i64 0, .int .i64 2]))
    (H6 : Ret 30 #[.int .i64 (day - 65536)] (.tuple #[.int .i64 0, .int .i64 2]))
    (H7 : Ret 31 #[.int .i64 month] (.tuple #[.int .i64 0, .int .i64 2]))
    (H8 : Ret 15 #[.int .i64 2000, .int .i64 month, .int .i64 1] (.tuple #[.int .i64 0, .int .i64 2]))
    (H9 : Ret 15 #[.int .i64 (day - 65536), .int .i64 1, .int .i64 1] (.tuple #[.int .i64 0, .int .i64 2]))
    (G1 : Ret 35 #[.int .i64 (day - 65536)] (.string ⟨#[]⟩))
    (G2 : Ret 19 #[.int .i64 2000, .int .i64 month] (.int .i64 0)) :
    Ret 14 #[.int .i64 day, .int .i64 month, .int .i64 date] (.bool true) := by
  intro w0 w hS
  have HS := Lib.hid hS
  clear hS
  go_enter Tryd.func14, Tryd.ntmps14
  go_wp2_with (first
    | (go_at_call 21; ((with_reducible refine (r_awake.go HS.out).mono ?_); rintro e w' ⟨rfl, hs⟩; replace HS := Lib.hid hs; clear hs))
    | (go_at_call 27; ((with_reducible refine (HP.go HS.out).mono ?_); rintro e w' ⟨rfl, hs⟩; replace HS := Lib.hid hs; clear hs))
    | (go_at_call 32; ((with_reducible refine (H1.go HS.out).mono ?_); rintro e w' ⟨rfl, hs⟩; replace HS := Lib.hid hs; clear hs))
    | (go_at_call 33; ((with_reducible refine (H2.go HS.out).mono ?_); rintro e w' ⟨rfl, hs⟩; replace HS := Lib.hid hs; clear hs))
    | (go_at_call 33; ((with_reducible refine (H3.go HS.out).mono ?_); rintro e w' ⟨rfl, hs⟩; replace HS := Lib.hid hs; clear hs))
    | (go_at_call 34; ((with_reducible refine (H4.go HS.out).mono ?_); rintro e w' ⟨rfl, hs⟩; replace HS := Lib.hid hs; clear hs))
    | (go_at_call 34; ((with_reducible refine (H5.go HS.out).mono ?_); rintro e w' ⟨rfl, hs⟩; replace HS := Lib.hid hs; clear hs))
    | (go_at_call 30; ((with_reducible refine (H6.go HS.out).mono ?_); rintro e w' ⟨rfl, hs⟩; replace HS := Lib.hid hs; clear hs))
    | (go_at_call 31; ((with_reducible refine (H7.go HS.out).mono ?_); rintro e w' ⟨rfl, hs⟩; replace HS := Lib.hid hs; clear hs))
    | (go_at_call 15; ((with_reducible refine (H8.go HS.out).mono ?_); rintro e w' ⟨rfl, hs⟩; replace HS := Lib.hid hs; clear hs))
    | (go_at_call 15; ((with_reducible refine (H9.go HS.out).mono ?_); rintro e w' ⟨rfl, hs⟩; replace HS := Lib.hid hs; clear hs))
    | (go_at_call 35; ((with_reducible refine (G1.go HS.out).mono ?_); rintro e w' ⟨rfl, hs⟩; replace HS := Lib.hid hs; clear hs))
    | (go_at_call 19; ((with_reducible refine (G2.go HS.out).mono ?_); rintro e w' ⟨rfl, hs⟩; replace HS := Lib.hid hs; clear hs)))
  go_ret
  exact ⟨rfl, HS.out⟩

set_option maxRecDepth 100000 in
set_option maxHeartbeats 1000000 in
theorem Wrong_in_in (day month date T : Int) (_bd : I64 day) (_bm : I64 month) (_hd0 : 0 ≤ day) (_hd : day < 65536) (_hm0 : 0 ≤ month) (_hm : month < 2154) (_hT : 0 ≤ T ∧ T < 65536)
    (HP : Ret 27 #[.int .i64 date, .int .i64 65536] (.int .i64 T))
    (H1 : Ret 32 #[.int .i64 (day - 65536), .int .i64 1] (.tuple #[.int .i64 0, .int .i64 2]))
    (H2 : Ret 33 #[.int .i64 (day - 65536), .int .i64 T] (.tuple #[.int .i64 0, .int .i64 2]))
    (H3 : Ret 33 #[.int .i64 T, .int .i64 (day - 65536)] (.tuple #[.int .i64 0, .int .i64 2]))
    (H4 : Ret 34 #[.int .i64 (day - 65536), .int .i64 T] (.tuple #[.int .i64 0, .int .i64 2]))
    (H5 : Ret 34 #[.int .i64 T, .int .i64 (day - 65536)] (.tuple #[.int .i64 0, .int .i64 2]))
    (H6 : Ret 30 #[.int .i64 (day - 65536)] (.tuple #[.int .i64 0, .int .i64 2]))
    (H7 : Ret 31 #[.int .i64 (month + 2154)] (.tuple #[.int .i64 0, .int .i64 2]))
    (H8 : Ret 15 #[.int .i64 2000, .int .i64 (month + 2154), .int .i64 1] (.tuple #[.int .i64 0, .int .i64 2]))
    (H9 : Ret 15 #[.int .i64 (day - 65536), .int .i64 1, .int .i64 1] (.tuple #[.int .i64 0, .int .i64 2]))
    (G1 : Ret 35 #[.int .i64 (day - 65536)] (.string ⟨#[]⟩))
    (G2 : Ret 19 #[.int .i64 2000, .int .i64 (month + 2154)] (.int .i64 0)) :
    Ret 14 #[.int .i64 day, .int .i64 month, .int .i64 date] (.bool true) := by
  intro w0 w hS
  have HS := Lib.hid hS
  clear hS
  go_enter Tryd.func14, Tryd.ntmps14
  go_wp2_with (first
    | (go_at_call 21; ((with_reducible refine (r_awake.go HS.out).mono ?_); rintro e w' ⟨rfl, hs⟩; replace HS := Lib.hid hs; clear hs))
    | (go_at_call 27; ((with_reducible refine (HP.go HS.out).mono ?_); rintro e w' ⟨rfl, hs⟩; replace HS := Lib.hid hs; clear hs))
    | (go_at_call 32; ((with_reducible refine (H1.go HS.out).mono ?_); rintro e w' ⟨rfl, hs⟩; replace HS := Lib.hid hs; clear hs))
    | (go_at_call 33; ((with_reducible refine (H2.go HS.out).mono ?_); rintro e w' ⟨rfl, hs⟩; replace HS := Lib.hid hs; clear hs))
    | (go_at_call 33; ((with_reducible refine (H3.go HS.out).mono ?_); rintro e w' ⟨rfl, hs⟩; replace HS := Lib.hid hs; clear hs))
    | (go_at_call 34; ((with_reducible refine (H4.go HS.out).mono ?_); rintro e w' ⟨rfl, hs⟩; replace HS := Lib.hid hs; clear hs))
    | (go_at_call 34; ((with_reducible refine (H5.go HS.out).mono ?_); rintro e w' ⟨rfl, hs⟩; replace HS := Lib.hid hs; clear hs))
    | (go_at_call 30; ((with_reducible refine (H6.go HS.out).mono ?_); rintro e w' ⟨rfl, hs⟩; replace HS := Lib.hid hs; clear hs))
    | (go_at_call 31; ((with_reducible refine (H7.go HS.out).mono ?_); rintro e w' ⟨rfl, hs⟩; replace HS := Lib.hid hs; clear hs))
    | (go_at_call 15; ((with_reducible refine (H8.go HS.out).mono ?_); rintro e w' ⟨rfl, hs⟩; replace HS := Lib.hid hs; clear hs))
    | (go_at_call 15; ((with_reducible refine (H9.go HS.out).mono ?_); rintro e w' ⟨rfl, hs⟩; replace HS := Lib.hid hs; clear hs))
    | (go_at_call 35; ((with_reducible refine (G1.go HS.out).mono ?_); rintro e w' ⟨rfl, hs⟩; replace HS := Lib.hid hs; clear hs))
    | (go_at_call 19; ((with_reducible refine (G2.go HS.out).mono ?_); rintro e w' ⟨rfl, hs⟩; replace HS := Lib.hid hs; clear hs)))
  go_ret
  exact ⟨rfl, HS.out⟩

theorem Wrong_hyps (D M date : Int) (bM : I64 M) (hD : D < 0 ∨ 65536 ≤ D) (hM : M < 0 ∨ 2154 ≤ M) {P : Prop}
    (k : Ret 32 #[.int .i64 D, .int .i64 1] (.tuple #[.int .i64 0, .int .i64 2]) → Ret 33 #[.int .i64 D, .int .i64 (date % 65536)] (.tuple #[.int .i64 0, .int .i64 2]) → Ret 33 #[.int .i64 (date % 65536), .int .i64 D] (.tuple #[.int .i64 0, .int .i64 2]) →
      Ret 34 #[.int .i64 D, .int .i64 (date % 65536)] (.tuple #[.int .i64 0, .int .i64 2]) → Ret 34 #[.int .i64 (date % 65536), .int .i64 D] (.tuple #[.int .i64 0, .int .i64 2]) → Ret 30 #[.int .i64 D] (.tuple #[.int .i64 0, .int .i64 2]) →
      Ret 31 #[.int .i64 M] (.tuple #[.int .i64 0, .int .i64 2]) → Ret 15 #[.int .i64 2000, .int .i64 M, .int .i64 1] (.tuple #[.int .i64 0, .int .i64 2]) → Ret 15 #[.int .i64 D, .int .i64 1, .int .i64 1] (.tuple #[.int .i64 0, .int .i64 2]) →
      Ret 35 #[.int .i64 D] (.string ⟨#[]⟩) → Ret 19 #[.int .i64 2000, .int .i64 M] (.int .i64 0) → P) : P := by
  refine k (r_add_no D 1 hD) (r_btw_no _ _ (.inl hD)) (r_btw_no _ _ (.inr hD)) (r_age_no _ _ (.inl hD)) (r_age_no _ _ (.inr hD)) (r_month_no D hD) (r_first_no M hM)
    (r_day_no 2000 M 1 bM (decide_eq_false fun h => by omega)) (r_day_no D 1 1 (by omega) (decide_eq_false fun h => by omega)) (r_text_no D hD) ?_
  have := r_len 2000 M bM
  rwa [Cal.len_out 2000 M (by omega)] at this

theorem Wrong_walk (day month date : Int) (bd : I64 day) (bm : I64 month) : Ret 14 #[.int .i64 day, .int .i64 month, .int .i64 date] (.bool true) := by
  have hT : 0 ≤ date % 65536 ∧ date % 65536 < 65536 := by omega
  have hp := r_pick date 65536 (by omega) (by omega)
  by_cases hd : day < 0
  · by_cases hm : month < 0
    · exact Wrong_hyps day month date (by omega) (by omega) (by omega) (Wrong_lo_lo day month date _ bd bm hd hm hT hp)
    by_cases hm : 2154 ≤ month
    · exact Wrong_hyps day month date (by omega) (by omega) (by omega) (Wrong_lo_hi day month date _ bd bm hd hm hT hp)
    have hm : month < 2154 := by omega
    exact Wrong_hyps day (month + 2154) date (by omega) (by omega) (by omega) (Wrong_lo_in day month date _ bd bm hd (by omega) hm hT hp)
  by_cases hd : 65536 ≤ day
  · by_cases hm : month < 0
    · exact Wrong_hyps day month date (by omega) (by omega) (by omega) (Wrong_hi_lo day month date _ bd bm hd hm hT hp)
    by_cases hm : 2154 ≤ month
    · exact Wrong_hyps day month date (by omega) (by omega) (by omega) (Wrong_hi_hi day month date _ bd bm hd hm hT hp)
    have hm : month < 2154 := by omega
    exact Wrong_hyps day (month + 2154) date (by omega) (by omega) (by omega) (Wrong_hi_in day month date _ bd bm hd (by omega) hm hT hp)
  have hd : day < 65536 := by omega
  by_cases hm : month < 0
  · exact Wrong_hyps (day - 65536) month date (by omega) (by omega) (by omega) (Wrong_in_lo day month date _ bd bm (by omega) hd hm hT hp)
  by_cases hm : 2154 ≤ month
  · exact Wrong_hyps (day - 65536) month date (by omega) (by omega) (by omega) (Wrong_in_hi day month date _ bd bm (by omega) hd hm hT hp)
  have hm : month < 2154 := by omega
  exact Wrong_hyps (day - 65536) (month + 2154) date (by omega) (by omega) (by omega) (Wrong_in_in day month date _ bd bm (by omega) hd (by omega) hm hT hp)

end Go.Proofs.YtmjmpdbkijhkiaaDoor
