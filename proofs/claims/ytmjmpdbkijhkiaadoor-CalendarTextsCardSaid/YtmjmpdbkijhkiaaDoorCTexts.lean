/-
'CalendarTexts', over what the functions answer.
-/
import Derived.Test.YtmjmpdbkijhkiaaDoorCParse
import Derived.Test.YtmjmpdbkijhkiaaDoorCOrder
import Derived.Test.YtmjmpdbkijhkiaaDoorCLaid
namespace Go.Proofs.YtmjmpdbkijhkiaaDoor
open Go.RowKit

set_option maxRecDepth 100000 in
set_option maxHeartbeats 1000000 in
theorem Texts_lt_long (a b A B : Int) (s u v : ByteArray) (_hz : ((u.size : Int) != 10) = false) (_ho : A < B) (_hl : Op.bytesLess u.toList v.toList = true) (_hs : 100 < s.size)
    (P1 : Ret 27 #[.int .i64 a, .int .i64 65536] (.int .i64 A))
    (P2 : Ret 27 #[.int .i64 b, .int .i64 65536] (.int .i64 B))
    (T1 : Ret 35 #[.int .i64 A] (.string u))
    (T2 : Ret 35 #[.int .i64 B] (.string v))
    (H1 : Ret 24 #[.string u] (.tuple #[.int .i64 A, .int .i64 0])) :
    Ret 13 #[.int .i64 a, .int .i64 b, .string s] (.bool true) := by
  intro w0 w hS
  have HS := Lib.hid hS
  clear hS
  go_enter Tryd.func13, Tryd.ntmps13
  go_wp2_with (first
    | (go_at_call 21; ((with_reducible refine (r_awake.go HS.out).mono ?_); rintro e w' ⟨rfl, hs⟩; replace HS := Lib.hid hs; clear hs))
    | (go_at_call 27; ((with_reducible refine (P1.go HS.out).mono ?_); rintro e w' ⟨rfl, hs⟩; replace HS := Lib.hid hs; clear hs))
    | (go_at_call 27; ((with_reducible refine (P2.go HS.out).mono ?_); rintro e w' ⟨rfl, hs⟩; replace HS := Lib.hid hs; clear hs))
    | (go_at_call 35; ((with_reducible refine (T1.go HS.out).mono ?_); rintro e w' ⟨rfl, hs⟩; replace HS := Lib.hid hs; clear hs))
    | (go_at_call 35; ((with_reducible refine (T2.go HS.out).mono ?_); rintro e w' ⟨rfl, hs⟩; replace HS := Lib.hid hs; clear hs))
    | (go_at_call 24; ((with_reducible refine (H1.go HS.out).mono ?_); rintro e w' ⟨rfl, hs⟩; replace HS := Lib.hid hs; clear hs)))
  go_ret
  exact ⟨rfl, HS.out⟩

set_option maxRecDepth 100000 in
set_option maxHeartbeats 1000000 in
theorem Texts_lt_date (a b A B x : Int) (s u v : ByteArray) (_hz : ((u.size : Int) != 10) = false) (_ho : A < B) (_hl : Op.bytesLess u.toList v.toList = true) (_hs : s.size ≤ 100)
    (P1 : Ret 27 #[.int .i64 a, .int .i64 65536] (.int .i64 A))
    (P2 : Ret 27 #[.int .i64 b, .int .i64 65536] (.int .i64 B))
    (T1 : Ret 35 #[.int .i64 A] (.string u))
    (T2 : Ret 35 #[.int .i64 B] (.string v))
    (H1 : Ret 24 #[.string u] (.tuple #[.int .i64 A, .int .i64 0]))
    (H2 : Ret 24 #[.string s] (.tuple #[.int .i64 x, .int .i64 0]))
    (T3 : Ret 35 #[.int .i64 x] (.string s)) :
    Ret 13 #[.int .i64 a, .int .i64 b, .string s] (.bool true) := by
  intro w0 w hS
  have HS := Lib.hid hS
  clear hS
  go_enter Tryd.func13, Tryd.ntmps13
  go_wp2_with (first
    | (go_at_call 21; ((with_reducible refine (r_awake.go HS.out).mono ?_); rintro e w' ⟨rfl, hs⟩; replace HS := Lib.hid hs; clear hs))
    | (go_at_call 27; ((with_reducible refine (P1.go HS.out).mono ?_); rintro e w' ⟨rfl, hs⟩; replace HS := Lib.hid hs; clear hs))
    | (go_at_call 27; ((with_reducible refine (P2.go HS.out).mono ?_); rintro e w' ⟨rfl, hs⟩; replace HS := Lib.hid hs; clear hs))
    | (go_at_call 35; ((with_reducible refine (T1.go HS.out).mono ?_); rintro e w' ⟨rfl, hs⟩; replace HS := Lib.hid hs; clear hs))
    | (go_at_call 35; ((with_reducible refine (T2.go HS.out).mono ?_); rintro e w' ⟨rfl, hs⟩; replace HS := Lib.hid hs; clear hs))
    | (go_at_call 24; ((with_reducible refine (H1.go HS.out).mono ?_); rintro e w' ⟨rfl, hs⟩; replace HS := Lib.hid hs; clear hs))
    | (go_at_call 24; ((with_reducible refine (H2.go HS.out).mono ?_); rintro e w' ⟨rfl, hs⟩; replace HS := Lib.hid hs; clear hs))
    | (go_at_call 35; ((with_reducible refine (T3.go HS.out).mono ?_); rintro e w' ⟨rfl, hs⟩; replace HS := Lib.hid hs; clear hs)))
  go_ret
  exact ⟨rfl, HS.out⟩

set_option maxRecDepth 100000 in
set_option maxHeartbeats 1000000 in
theorem Texts_lt_not (a b A B : Int) (s u v : ByteArray) (_hz : ((u.size : Int) != 10) = false) (_ho : A < B) (_hl : Op.bytesLess u.toList v.toList = true) (_hs : s.size ≤ 100)
    (P1 : Ret 27 #[.int .i64 a, .int .i64 65536] (.int .i64 A))
    (P2 : Ret 27 #[.int .i64 b, .int .i64 65536] (.int .i64 B))
    (T1 : Ret 35 #[.int .i64 A] (.string u))
    (T2 : Ret 35 #[.int .i64 B] (.string v))
    (H1 : Ret 24 #[.string u] (.tuple #[.int .i64 A, .int .i64 0]))
    (H2 : Ret 24 #[.string s] (.tuple #[.int .i64 0, .int .i64 2])) :
    Ret 13 #[.int .i64 a, .int .i64 b, .string s] (.bool true) := by
  intro w0 w hS
  have HS := Lib.hid hS
  clear hS
  go_enter Tryd.func13, Tryd.ntmps13
  go_wp2_with (first
    | (go_at_call 21; ((with_reducible refine (r_awake.go HS.out).mono ?_); rintro e w' ⟨rfl, hs⟩; replace HS := Lib.hid hs; clear hs))
    | (go_at_call 27; ((with_reducible refine (P1.go HS.out).mono ?_); rintro e w' ⟨rfl, hs⟩; replace HS := Lib.hid hs; clear hs))
    | (go_at_call 27; ((with_reducible refine (P2.go HS.out).mono ?_); rintro e w' ⟨rfl, hs⟩; replace HS := Lib.hid hs; clear hs))
    | (go_at_call 35; ((with_reducible refine (T1.go HS.out).mono ?_); rintro e w' ⟨rfl, hs⟩; replace HS := Lib.hid hs; clear hs))
    | (go_at_call 35; ((with_reducible refine (T2.go HS.out).mono ?_); rintro e w' ⟨rfl, hs⟩; replace HS := Lib.hid hs; clear hs))
    | (go_at_call 24; ((with_reducible refine (H1.go HS.out).mono ?_); rintro e w' ⟨rfl, hs⟩; replace HS := Lib.hid hs; clear hs))
    | (go_at_call 24; ((with_reducible refine (H2.go HS.out).mono ?_); rintro e w' ⟨rfl, hs⟩; replace HS := Lib.hid hs; clear hs)))
  go_ret
  exact ⟨rfl, HS.out⟩

set_option maxRecDepth 100000 in
set_option maxHeartbeats 1000000 in
theorem Texts_gt_long (a b A B : Int) (s u v : ByteArray) (_hz : ((u.size : Int) != 10) = false) (_ho : B < A) (_hl : Op.bytesLess u.toList v.toList = false) (_hs : 100 < s.size)
    (P1 : Ret 27 #[.int .i64 a, .int .i64 65536] (.int .i64 A))
    (P2 : Ret 27 #[.int .i64 b, .int .i64 65536] (.int .i64 B))
    (T1 : Ret 35 #[.int .i64 A] (.string u))
    (T2 : Ret 35 #[.int .i64 B] (.string v))
    (H1 : Ret 24 #[.string u] (.tuple #[.int .i64 A, .int .i64 0])) :
    Ret 13 #[.int .i64 a, .int .i64 b, .string s] (.bool true) := by
  intro w0 w hS
  have HS := Lib.hid hS
  clear hS
  go_enter Tryd.func13, Tryd.ntmps13
  go_wp2_with (first
    | (go_at_call 21; ((with_reducible refine (r_awake.go HS.out).mono ?_); rintro e w' ⟨rfl, hs⟩; replace HS := Lib.hid hs; clear hs))
    | (go_at_call 27; ((with_reducible refine (P1.go HS.out).mono ?_); rintro e w' ⟨rfl, hs⟩; replace HS := Lib.hid hs; clear hs))
    | (go_at_call 27; ((with_reducible refine (P2.go HS.out).mono ?_); rintro e w' ⟨rfl, hs⟩; replace HS := Lib.hid hs; clear hs))
    | (go_at_call 35; ((with_reducible refine (T1.go HS.out).mono ?_); rintro e w' ⟨rfl, hs⟩; replace HS := Lib.hid hs; clear hs))
    | (go_at_call 35; ((with_reducible refine (T2.go HS.out).mono ?_); rintro e w' ⟨rfl, hs⟩; replace HS := Lib.hid hs; clear hs))
    | (go_at_call 24; ((with_reducible refine (H1.go HS.out).mono ?_); rintro e w' ⟨rfl, hs⟩; replace HS := Lib.hid hs; clear hs)))
  go_ret
  exact ⟨rfl, HS.out⟩

set_option maxRecDepth 100000 in
set_option maxHeartbeats 1000000 in
theorem Texts_gt_date (a b A B x : Int) (s u v : ByteArray) (_hz : ((u.size : Int) != 10) = false) (_ho : B < A) (_hl : Op.bytesLess u.toList v.toList = false) (_hs : s.size ≤ 100)
    (P1 : Ret 27 #[.int .i64 a, .int .i64 65536] (.int .i64 A))
    (P2 : Ret 27 #[.int .i64 b, .int .i64 65536] (.int .i64 B))
    (T1 : Ret 35 #[.int .i64 A] (.string u))
    (T2 : Ret 35 #[.int .i64 B] (.string v))
    (H1 : Ret 24 #[.string u] (.tuple #[.int .i64 A, .int .i64 0]))
    (H2 : Ret 24 #[.string s] (.tuple #[.int .i64 x, .int .i64 0]))
    (T3 : Ret 35 #[.int .i64 x] (.string s)) :
    Ret 13 #[.int .i64 a, .int .i64 b, .string s] (.bool true) := by
  intro w0 w hS
  have HS := Lib.hid hS
  clear hS
  go_enter Tryd.func13, Tryd.ntmps13
  go_wp2_with (first
    | (go_at_call 21; ((with_reducible refine (r_awake.go HS.out).mono ?_); rintro e w' ⟨rfl, hs⟩; replace HS := Lib.hid hs; clear hs))
    | (go_at_call 27; ((with_reducible refine (P1.go HS.out).mono ?_); rintro e w' ⟨rfl, hs⟩; replace HS := Lib.hid hs; clear hs))
    | (go_at_call 27; ((with_reducible refine (P2.go HS.out).mono ?_); rintro e w' ⟨rfl, hs⟩; replace HS := Lib.hid hs; clear hs))
    | (go_at_call 35; ((with_reducible refine (T1.go HS.out).mono ?_); rintro e w' ⟨rfl, hs⟩; replace HS := Lib.hid hs; clear hs))
    | (go_at_call 35; ((with_reducible refine (T2.go HS.out).mono ?_); rintro e w' ⟨rfl, hs⟩; replace HS := Lib.hid hs; clear hs))
    | (go_at_call 24; ((with_reducible refine (H1.go HS.out).mono ?_); rintro e w' ⟨rfl, hs⟩; replace HS := Lib.hid hs; clear hs))
    | (go_at_call 24; ((with_reducible refine (H2.go HS.out).mono ?_); rintro e w' ⟨rfl, hs⟩; replace HS := Lib.hid hs; clear hs))
    | (go_at_call 35; ((with_reducible refine (T3.go HS.out).mono ?_); rintro e w' ⟨rfl, hs⟩; replace HS := Lib.hid hs; clear hs)))
  go_ret
  exact ⟨rfl, HS.out⟩

set_option maxRecDepth 100000 in
set_option maxHeartbeats 1000000 in
theorem Texts_gt_not (a b A B : Int) (s u v : ByteArray) (_hz : ((u.size : Int) != 10) = false) (_ho : B < A) (_hl : Op.bytesLess u.toList v.toList = false) (_hs : s.size ≤ 100)
    (P1 : Ret 27 #[.int .i64 a, .int .i64 65536] (.int .i64 A))
    (P2 : Ret 27 #[.int .i64 b, .int .i64 65536] (.int .i64 B))
    (T1 : Ret 35 #[.int .i64 A] (.string u))
    (T2 : Ret 35 #[.int .i64 B] (.string v))
    (H1 : Ret 24 #[.string u] (.tuple #[.int .i64 A, .int .i64 0]))
    (H2 : Ret 24 #[.string s] (.tuple #[.int .i64 0, .int .i64 2])) :
    Ret 13 #[.int .i64 a, .int .i64 b, .string s] (.bool true) := by
  intro w0 w hS
  have HS := Lib.hid hS
  clear hS
  go_enter Tryd.func13, Tryd.ntmps13
  go_wp2_with (first
    | (go_at_call 21; ((with_reducible refine (r_awake.go HS.out).mono ?_); rintro e w' ⟨rfl, hs⟩; replace HS := Lib.hid hs; clear hs))
    | (go_at_call 27; ((with_reducible refine (P1.go HS.out).mono ?_); rintro e w' ⟨rfl, hs⟩; replace HS := Lib.hid hs; clear hs))
    | (go_at_call 27; ((with_reducible refine (P2.go HS.out).mono ?_); rintro e w' ⟨rfl, hs⟩; replace HS := Lib.hid hs; clear hs))
    | (go_at_call 35; ((with_reducible refine (T1.go HS.out).mono ?_); rintro e w' ⟨rfl, hs⟩; replace HS := Lib.hid hs; clear hs))
    | (go_at_call 35; ((with_reducible refine (T2.go HS.out).mono ?_); rintro e w' ⟨rfl, hs⟩; replace HS := Lib.hid hs; clear hs))
    | (go_at_call 24; ((with_reducible refine (H1.go HS.out).mono ?_); rintro e w' ⟨rfl, hs⟩; replace HS := Lib.hid hs; clear hs))
    | (go_at_call 24; ((with_reducible refine (H2.go HS.out).mono ?_); rintro e w' ⟨rfl, hs⟩; replace HS := Lib.hid hs; clear hs)))
  go_ret
  exact ⟨rfl, HS.out⟩

set_option maxRecDepth 100000 in
set_option maxHeartbeats 1000000 in
theorem Texts_eq_long (a b A : Int) (s u : ByteArray) (_hz : ((u.size : Int) != 10) = false) (_hl : Op.bytesLess u.toList u.toList = false) (_hs : 100 < s.size)
    (P1 : Ret 27 #[.int .i64 a, .int .i64 65536] (.int .i64 A))
    (P2 : Ret 27 #[.int .i64 b, .int .i64 65536] (.int .i64 A))
    (T1 : Ret 35 #[.int .i64 A] (.string u))
    (H1 : Ret 24 #[.string u] (.tuple #[.int .i64 A, .int .i64 0])) :
    Ret 13 #[.int .i64 a, .int .i64 b, .string s] (.bool true) := by
  intro w0 w hS
  have HS := Lib.hid hS
  clear hS
  go_enter Tryd.func13, Tryd.ntmps13
  go_wp2_with (first
    | (go_at_call 21; ((with_reducible refine (r_awake.go HS.out).mono ?_); rintro e w' ⟨rfl, hs⟩; replace HS := Lib.hid hs; clear hs))
    | (go_at_call 27; ((with_reducible refine (P1.go HS.out).mono ?_); rintro e w' ⟨rfl, hs⟩; replace HS := Lib.hid hs; clear hs))
    | (go_at_call 27; ((with_reducible refine (P2.go HS.out).mono ?_); rintro e w' ⟨rfl, hs⟩; replace HS := Lib.hid hs; clear hs))
    | (go_at_call 35; ((with_reducible refine (T1.go HS.out).mono ?_); rintro e w' ⟨rfl, hs⟩; replace HS := Lib.hid hs; clear hs))
    | (go_at_call 24; ((with_reducible refine (H1.go HS.out).mono ?_); rintro e w' ⟨rfl, hs⟩; replace HS := Lib.hid hs; clear hs)))
  go_ret
  exact ⟨rfl, HS.out⟩

set_option maxRecDepth 100000 in
set_option maxHeartbeats 1000000 in
theorem Texts_eq_date (a b A x : Int) (s u : ByteArray) (_hz : ((u.size : Int) != 10) = false) (_hl : Op.bytesLess u.toList u.toList = false) (_hs : s.size ≤ 100)
    (P1 : Ret 27 #[.int .i64 a, .int .i64 65536] (.int .i64 A))
    (P2 : Ret 27 #[.int .i64 b, .int .i64 65536] (.int .i64 A))
    (T1 : Ret 35 #[.int .i64 A] (.string u))
    (H1 : Ret 24 #[.string u] (.tuple #[.int .i64 A, .int .i64 0]))
    (H2 : Ret 24 #[.string s] (.tuple #[.int .i64 x, .int .i64 0]))
    (T3 : Ret 35 #[.int .i64 x] (.string s)) :
    Ret 13 #[.int .i64 a, .int .i64 b, .string s] (.bool true) := by
  intro w0 w hS
  have HS := Lib.hid hS
  clear hS
  go_enter Tryd.func13, Tryd.ntmps13
  go_wp2_with (first
    | (go_at_call 21; ((with_reducible refine (r_awake.go HS.out).mono ?_); rintro e w' ⟨rfl, hs⟩; replace HS := Lib.hid hs; clear hs))
    | (go_at_call 27; ((with_reducible refine (P1.go HS.out).mono ?_); rintro e w' ⟨rfl, hs⟩; replace HS := Lib.hid hs; clear hs))
    | (go_at_call 27; ((with_reducible refine (P2.go HS.out).mono ?_); rintro e w' ⟨rfl, hs⟩; replace HS := Lib.hid hs; clear hs))
    | (go_at_call 35; ((with_reducible refine (T1.go HS.out).mono ?_); rintro e w' ⟨rfl, hs⟩; replace HS := Lib.hid hs; clear hs))
    | (go_at_call 24; ((with_reducible refine (H1.go HS.out).mono ?_); rintro e w' ⟨rfl, hs⟩; replace HS := Lib.hid hs; clear hs))
    | (go_at_call 24; ((with_reducible refine (H2.go HS.out).mono ?_); rintro e w' ⟨rfl, hs⟩; replace HS := Lib.hid hs; clear hs))
    | (go_at_call 35; ((with_reducible refine (T3.go HS.out).mono ?_); rintro e w' ⟨rfl, hs⟩; replace HS := Lib.hid hs; clear hs)))
  go_ret
  exact ⟨rfl, HS.out⟩

set_option maxRecDepth 100000 in
set_option maxHeartbeats 1000000 in
theorem Texts_eq_not (a b A : Int) (s u : ByteArray) (_hz : ((u.size : Int) != 10) = false) (_hl : Op.bytesLess u.toList u.toList = false) (_hs : s.size ≤ 100)
    (P1 : Ret 27 #[.int .i64 a, .int .i64 65536] (.int .i64 A))
    (P2 : Ret 27 #[.int .i64 b, .int .i64 65536] (.int .i64 A))
    (T1 : Ret 35 #[.int .i64 A] (.string u))
    (H1 : Ret 24 #[.string u] (.tuple #[.int .i64 A, .int .i64 0]))
    (H2 : Ret 24 #[.string s] (.tuple #[.int .i64 0, .int .i64 2])) :
    Ret 13 #[.int .i64 a, .int .i64 b, .string s] (.bool true) := by
  intro w0 w hS
  have HS := Lib.hid hS
  clear hS
  go_enter Tryd.func13, Tryd.ntmps13
  go_wp2_with (first
    | (go_at_call 21; ((with_reducible refine (r_awake.go HS.out).mono ?_); rintro e w' ⟨rfl, hs⟩; replace HS := Lib.hid hs; clear hs))
    | (go_at_call 27; ((with_reducible refine (P1.go HS.out).mono ?_); rintro e w' ⟨rfl, hs⟩; replace HS := Lib.hid hs; clear hs))
    | (go_at_call 27; ((with_reducible refine (P2.go HS.out).mono ?_); rintro e w' ⟨rfl, hs⟩; replace HS := Lib.hid hs; clear hs))
    | (go_at_call 35; ((with_reducible refine (T1.go HS.out).mono ?_); rintro e w' ⟨rfl, hs⟩; replace HS := Lib.hid hs; clear hs))
    | (go_at_call 24; ((with_reducible refine (H1.go HS.out).mono ?_); rintro e w' ⟨rfl, hs⟩; replace HS := Lib.hid hs; clear hs))
    | (go_at_call 24; ((with_reducible refine (H2.go HS.out).mono ?_); rintro e w' ⟨rfl, hs⟩; replace HS := Lib.hid hs; clear hs)))
  go_ret
  exact ⟨rfl, HS.out⟩

theorem Texts_walk (a b : Int) (s : ByteArray) : Ret 13 #[.int .i64 a, .int .i64 b, .string s] (.bool true) := by
  have pa := r_pick a 65536 (by omega) (by omega)
  have pb := r_pick b 65536 (by omega) (by omega)
  have ha : 0 ≤ a % 65536 ∧ a % 65536 < 65536 := by omega
  have hb : 0 ≤ b % 65536 ∧ b % 65536 < 65536 := by omega
  generalize a % 65536 = A at *
  generalize b % 65536 = B at *
  have t1 := r_text_yes A ha.1 ha.2
  have t2 := r_text_yes B hb.1 hb.2
  have h1 := parse_is ha.1 ha.2 rfl
  have hz : (((txt A).size : Int) != 10) = false := by rw [txt_ten]; rfl
  rcases Int.lt_trichotomy A B with h | h | h
  · have hl : Op.bytesLess (txt A).toList (txt B).toList = true := by rw [txt_less ha.1 ha.2 hb.1 hb.2]; exact decide_eq_true h
    rcases Nat.lt_or_ge 100 s.size with hs | hs
    · exact Texts_lt_long a b A B s _ _ hz h hl hs pa pb t1 t2 h1
    · by_cases hd : ∃ day : Int, 0 ≤ day ∧ day < 65536 ∧ s = txt day
      · obtain ⟨day, d0, d1, hd⟩ := hd
        exact Texts_lt_date a b A B day s _ _ hz h hl hs pa pb t1 t2 h1 (parse_is d0 d1 hd) (by rw [hd]; exact r_text_yes day d0 d1)
      · exact Texts_lt_not a b A B s _ _ hz h hl hs pa pb t1 t2 h1 (parse_not fun day d0 d1 e => hd ⟨day, d0, d1, e⟩)
  · subst h
    have hl : Op.bytesLess (txt A).toList (txt A).toList = false := by rw [txt_less ha.1 ha.2 hb.1 hb.2]; exact decide_eq_false (by omega)
    rcases Nat.lt_or_ge 100 s.size with hs | hs
    · exact Texts_eq_long a b A s _ hz hl hs pa pb t1 h1
    · by_cases hd : ∃ day : Int, 0 ≤ day ∧ day < 65536 ∧ s = txt day
      · obtain ⟨day, d0, d1, hd⟩ := hd
        exact Texts_eq_date a b A day s _ hz hl hs pa pb t1 h1 (parse_is d0 d1 hd) (by rw [hd]; exact r_text_yes day d0 d1)
      · exact Texts_eq_not a b A s _ hz hl hs pa pb t1 h1 (parse_not fun day d0 d1 e => hd ⟨day, d0, d1, e⟩)
  · have hl : Op.bytesLess (txt A).toList (txt B).toList = false := by rw [txt_less ha.1 ha.2 hb.1 hb.2]; exact decide_eq_false (by omega)
    rcases Nat.lt_or_ge 100 s.size with hs | hs
    · exact Texts_gt_long a b A B s _ _ hz h hl hs pa pb t1 t2 h1
    · by_cases hd : ∃ day : Int, 0 ≤ day ∧ day < 65536 ∧ s = txt day
      · obtain ⟨day, d0, d1, hd⟩ := hd
        exact Texts_gt_date a b A B day s _ _ hz h hl hs pa pb t1 t2 h1 (parse_is d0 d1 hd) (by rw [hd]; exact r_text_yes day d0 d1)
      · exact Texts_gt_not a b A B s _ _ hz h hl hs pa pb t1 t2 h1 (parse_not fun day d0 d1 e => hd ⟨day, d0, d1, e⟩)

end Go.Proofs.YtmjmpdbkijhkiaaDoor
