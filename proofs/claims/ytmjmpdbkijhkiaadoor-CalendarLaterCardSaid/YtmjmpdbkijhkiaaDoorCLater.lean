/-
'CalendarLater', over what the functions answer.
-/
import Derived.Test.YtmjmpdbkijhkiaaDoorCRet
import Derived.Test.YtmjmpdbkijhkiaaDoorCLaid
import Derived.Test.YtmjmpdbkijhkiaaDoorCMath2
namespace Go.Proofs.YtmjmpdbkijhkiaaDoor
open Go.RowKit

set_option maxRecDepth 100000 in
set_option maxHeartbeats 1000000 in
theorem Later_no (a b n v f : Int)
    (HA : Ret 32 #[.int .i64 a, .int .i64 n] (.tuple #[.int .i64 0, .int .i64 2]))
    (HB : Ret 32 #[.int .i64 b, .int .i64 n] (.tuple #[.int .i64 v, .int .i64 f]))
    (HY : Ret 28 #[.int .i64 a] (.tuple #[.int .i64 0, .int .i64 0, .int .i64 0, .int .i64 2])) :
    Ret 10 #[.int .i64 a, .int .i64 b, .int .i64 n] (.bool true) := by
  intro w0 w hS
  have HS := Lib.hid hS
  clear hS
  go_enter Tryd.func10, Tryd.ntmps10
  go_wp2_with (first
    | (go_at_call 21; ((with_reducible refine (r_awake.go HS.out).mono ?_); rintro e w' ⟨rfl, hs⟩; replace HS := Lib.hid hs; clear hs))
    | (go_at_call 32; ((with_reducible refine (HA.go HS.out).mono ?_); rintro e w' ⟨rfl, hs⟩; replace HS := Lib.hid hs; clear hs))
    | (go_at_call 32; ((with_reducible refine (HB.go HS.out).mono ?_); rintro e w' ⟨rfl, hs⟩; replace HS := Lib.hid hs; clear hs))
    | (go_at_call 28; ((with_reducible refine (HY.go HS.out).mono ?_); rintro e w' ⟨rfl, hs⟩; replace HS := Lib.hid hs; clear hs)))
  go_ret
  exact ⟨rfl, HS.out⟩

set_option maxRecDepth 100000 in
set_option maxHeartbeats 1000000 in
theorem Later_lo (a b n v f Y M D F : Int) (_hF : 0 ≤ F ∧ F ≤ 2153) (_hn : n < -F)
    (HA : Ret 32 #[.int .i64 a, .int .i64 n] (.tuple #[.int .i64 0, .int .i64 30]))
    (HB : Ret 32 #[.int .i64 b, .int .i64 n] (.tuple #[.int .i64 v, .int .i64 f]))
    (HY : Ret 28 #[.int .i64 a] (.tuple #[.int .i64 Y, .int .i64 M, .int .i64 D, .int .i64 0]))
    (HM : Ret 30 #[.int .i64 a] (.tuple #[.int .i64 F, .int .i64 0]))
    (G1 : Ret 30 #[.int .i64 65535] (.tuple #[.int .i64 2153, .int .i64 0]))
    (G2 : Ret 28 #[.int .i64 65535] (.tuple #[.int .i64 2079, .int .i64 6, .int .i64 6, .int .i64 0])) :
    Ret 10 #[.int .i64 a, .int .i64 b, .int .i64 n] (.bool true) := by
  intro w0 w hS
  have HS := Lib.hid hS
  clear hS
  go_enter Tryd.func10, Tryd.ntmps10
  go_wp2_with (first
    | (go_at_call 21; ((with_reducible refine (r_awake.go HS.out).mono ?_); rintro e w' ⟨rfl, hs⟩; replace HS := Lib.hid hs; clear hs))
    | (go_at_call 32; ((with_reducible refine (HA.go HS.out).mono ?_); rintro e w' ⟨rfl, hs⟩; replace HS := Lib.hid hs; clear hs))
    | (go_at_call 32; ((with_reducible refine (HB.go HS.out).mono ?_); rintro e w' ⟨rfl, hs⟩; replace HS := Lib.hid hs; clear hs))
    | (go_at_call 28; ((with_reducible refine (HY.go HS.out).mono ?_); rintro e w' ⟨rfl, hs⟩; replace HS := Lib.hid hs; clear hs))
    | (go_at_call 30; ((with_reducible refine (HM.go HS.out).mono ?_); rintro e w' ⟨rfl, hs⟩; replace HS := Lib.hid hs; clear hs))
    | (go_at_call 30; ((with_reducible refine (G1.go HS.out).mono ?_); rintro e w' ⟨rfl, hs⟩; replace HS := Lib.hid hs; clear hs))
    | (go_at_call 28; ((with_reducible refine (G2.go HS.out).mono ?_); rintro e w' ⟨rfl, hs⟩; replace HS := Lib.hid hs; clear hs)))
  go_ret
  exact ⟨rfl, HS.out⟩

set_option maxRecDepth 100000 in
set_option maxHeartbeats 1000000 in
theorem Later_hi (a b n v f Y M D F : Int) (_hF : 0 ≤ F ∧ F ≤ 2153) (_hn : 2153 - F < n)
    (HA : Ret 32 #[.int .i64 a, .int .i64 n] (.tuple #[.int .i64 0, .int .i64 30]))
    (HB : Ret 32 #[.int .i64 b, .int .i64 n] (.tuple #[.int .i64 v, .int .i64 f]))
    (HY : Ret 28 #[.int .i64 a] (.tuple #[.int .i64 Y, .int .i64 M, .int .i64 D, .int .i64 0]))
    (HM : Ret 30 #[.int .i64 a] (.tuple #[.int .i64 F, .int .i64 0]))
    (G1 : Ret 30 #[.int .i64 65535] (.tuple #[.int .i64 2153, .int .i64 0]))
    (G2 : Ret 28 #[.int .i64 65535] (.tuple #[.int .i64 2079, .int .i64 6, .int .i64 6, .int .i64 0])) :
    Ret 10 #[.int .i64 a, .int .i64 b, .int .i64 n] (.bool true) := by
  intro w0 w hS
  have HS := Lib.hid hS
  clear hS
  go_enter Tryd.func10, Tryd.ntmps10
  go_wp2_with (first
    | (go_at_call 21; ((with_reducible refine (r_awake.go HS.out).mono ?_); rintro e w' ⟨rfl, hs⟩; replace HS := Lib.hid hs; clear hs))
    | (go_at_call 32; ((with_reducible refine (HA.go HS.out).mono ?_); rintro e w' ⟨rfl, hs⟩; replace HS := Lib.hid hs; clear hs))
    | (go_at_call 32; ((with_reducible refine (HB.go HS.out).mono ?_); rintro e w' ⟨rfl, hs⟩; replace HS := Lib.hid hs; clear hs))
    | (go_at_call 28; ((with_reducible refine (HY.go HS.out).mono ?_); rintro e w' ⟨rfl, hs⟩; replace HS := Lib.hid hs; clear hs))
    | (go_at_call 30; ((with_reducible refine (HM.go HS.out).mono ?_); rintro e w' ⟨rfl, hs⟩; replace HS := Lib.hid hs; clear hs))
    | (go_at_call 30; ((with_reducible refine (G1.go HS.out).mono ?_); rintro e w' ⟨rfl, hs⟩; replace HS := Lib.hid hs; clear hs))
    | (go_at_call 28; ((with_reducible refine (G2.go HS.out).mono ?_); rintro e w' ⟨rfl, hs⟩; replace HS := Lib.hid hs; clear hs)))
  go_ret
  exact ⟨rfl, HS.out⟩

set_option maxRecDepth 100000 in
set_option maxHeartbeats 1000000 in
theorem Later_end (a b v f Y M D F : Int) (_hF : 0 ≤ F ∧ F ≤ 2153) (_hD : 6 < D)
    (HA : Ret 32 #[.int .i64 a, .int .i64 (2153 - F)] (.tuple #[.int .i64 0, .int .i64 30]))
    (HB : Ret 32 #[.int .i64 b, .int .i64 (2153 - F)] (.tuple #[.int .i64 v, .int .i64 f]))
    (HY : Ret 28 #[.int .i64 a] (.tuple #[.int .i64 Y, .int .i64 M, .int .i64 D, .int .i64 0]))
    (HM : Ret 30 #[.int .i64 a] (.tuple #[.int .i64 F, .int .i64 0]))
    (G1 : Ret 30 #[.int .i64 65535] (.tuple #[.int .i64 2153, .int .i64 0]))
    (G2 : Ret 28 #[.int .i64 65535] (.tuple #[.int .i64 2079, .int .i64 6, .int .i64 6, .int .i64 0])) :
    Ret 10 #[.int .i64 a, .int .i64 b, .int .i64 (2153 - F)] (.bool true) := by
  intro w0 w hS
  have HS := Lib.hid hS
  clear hS
  go_enter Tryd.func10, Tryd.ntmps10
  go_wp2_with (first
    | (go_at_call 21; ((with_reducible refine (r_awake.go HS.out).mono ?_); rintro e w' ⟨rfl, hs⟩; replace HS := Lib.hid hs; clear hs))
    | (go_at_call 32; ((with_reducible refine (HA.go HS.out).mono ?_); rintro e w' ⟨rfl, hs⟩; replace HS := Lib.hid hs; clear hs))
    | (go_at_call 32; ((with_reducible refine (HB.go HS.out).mono ?_); rintro e w' ⟨rfl, hs⟩; replace HS := Lib.hid hs; clear hs))
    | (go_at_call 28; ((with_reducible refine (HY.go HS.out).mono ?_); rintro e w' ⟨rfl, hs⟩; replace HS := Lib.hid hs; clear hs))
    | (go_at_call 30; ((with_reducible refine (HM.go HS.out).mono ?_); rintro e w' ⟨rfl, hs⟩; replace HS := Lib.hid hs; clear hs))
    | (go_at_call 30; ((with_reducible refine (G1.go HS.out).mono ?_); rintro e w' ⟨rfl, hs⟩; replace HS := Lib.hid hs; clear hs))
    | (go_at_call 28; ((with_reducible refine (G2.go HS.out).mono ?_); rintro e w' ⟨rfl, hs⟩; replace HS := Lib.hid hs; clear hs)))
  go_ret
  exact ⟨rfl, HS.out⟩

set_option maxRecDepth 100000 in
set_option maxHeartbeats 1000000 in
theorem Later_b2k (a b n x Y M D F P Q K : Int) (_hF : 0 ≤ F ∧ F ≤ 2153) (_hn : 0 ≤ F + n ∧ F + n ≤ 2153) (_hD : 1 ≤ D ∧ D ≤ 31) (_hK : 28 ≤ K ∧ K ≤ 31) (_hm : K < D) 
    (HA : Ret 32 #[.int .i64 a, .int .i64 n] (.tuple #[.int .i64 x, .int .i64 0]))
    (HB : Ret 32 #[.int .i64 b, .int .i64 n] (.tuple #[.int .i64 0, .int .i64 2]))
    (HY : Ret 28 #[.int .i64 a] (.tuple #[.int .i64 Y, .int .i64 M, .int .i64 D, .int .i64 0]))
    (HM : Ret 30 #[.int .i64 a] (.tuple #[.int .i64 F, .int .i64 0]))
    (G1 : Ret 30 #[.int .i64 x] (.tuple #[.int .i64 (F + n), .int .i64 0]))
    (G2 : Ret 28 #[.int .i64 x] (.tuple #[.int .i64 P, .int .i64 Q, .int .i64 K, .int .i64 0]))
    (G3 : Ret 19 #[.int .i64 P, .int .i64 Q] (.int .i64 K)) :
    Ret 10 #[.int .i64 a, .int .i64 b, .int .i64 n] (.bool true) := by
  intro w0 w hS
  have HS := Lib.hid hS
  clear hS
  go_enter Tryd.func10, Tryd.ntmps10
  go_wp2_with (first
    | (go_at_call 21; ((with_reducible refine (r_awake.go HS.out).mono ?_); rintro e w' ⟨rfl, hs⟩; replace HS := Lib.hid hs; clear hs))
    | (go_at_call 32; ((with_reducible refine (HA.go HS.out).mono ?_); rintro e w' ⟨rfl, hs⟩; replace HS := Lib.hid hs; clear hs))
    | (go_at_call 32; ((with_reducible refine (HB.go HS.out).mono ?_); rintro e w' ⟨rfl, hs⟩; replace HS := Lib.hid hs; clear hs))
    | (go_at_call 28; ((with_reducible refine (HY.go HS.out).mono ?_); rintro e w' ⟨rfl, hs⟩; replace HS := Lib.hid hs; clear hs))
    | (go_at_call 30; ((with_reducible refine (HM.go HS.out).mono ?_); rintro e w' ⟨rfl, hs⟩; replace HS := Lib.hid hs; clear hs))
    | (go_at_call 30; ((with_reducible refine (G1.go HS.out).mono ?_); rintro e w' ⟨rfl, hs⟩; replace HS := Lib.hid hs; clear hs))
    | (go_at_call 28; ((with_reducible refine (G2.go HS.out).mono ?_); rintro e w' ⟨rfl, hs⟩; replace HS := Lib.hid hs; clear hs))
    | (go_at_call 19; ((with_reducible refine (G3.go HS.out).mono ?_); rintro e w' ⟨rfl, hs⟩; replace HS := Lib.hid hs; clear hs)))
  go_ret
  exact ⟨rfl, HS.out⟩

set_option maxRecDepth 100000 in
set_option maxHeartbeats 1000000 in
theorem Later_b30k (a b n x Y M D F P Q K : Int) (_hF : 0 ≤ F ∧ F ≤ 2153) (_hn : 0 ≤ F + n ∧ F + n ≤ 2153) (_hD : 1 ≤ D ∧ D ≤ 31) (_hK : 28 ≤ K ∧ K ≤ 31) (_hm : K < D) 
    (HA : Ret 32 #[.int .i64 a, .int .i64 n] (.tuple #[.int .i64 x, .int .i64 0]))
    (HB : Ret 32 #[.int .i64 b, .int .i64 n] (.tuple #[.int .i64 0, .int .i64 30]))
    (HY : Ret 28 #[.int .i64 a] (.tuple #[.int .i64 Y, .int .i64 M, .int .i64 D, .int .i64 0]))
    (HM : Ret 30 #[.int .i64 a] (.tuple #[.int .i64 F, .int .i64 0]))
    (G1 : Ret 30 #[.int .i64 x] (.tuple #[.int .i64 (F + n), .int .i64 0]))
    (G2 : Ret 28 #[.int .i64 x] (.tuple #[.int .i64 P, .int .i64 Q, .int .i64 K, .int .i64 0]))
    (G3 : Ret 19 #[.int .i64 P, .int .i64 Q] (.int .i64 K)) :
    Ret 10 #[.int .i64 a, .int .i64 b, .int .i64 n] (.bool true) := by
  intro w0 w hS
  have HS := Lib.hid hS
  clear hS
  go_enter Tryd.func10, Tryd.ntmps10
  go_wp2_with (first
    | (go_at_call 21; ((with_reducible refine (r_awake.go HS.out).mono ?_); rintro e w' ⟨rfl, hs⟩; replace HS := Lib.hid hs; clear hs))
    | (go_at_call 32; ((with_reducible refine (HA.go HS.out).mono ?_); rintro e w' ⟨rfl, hs⟩; replace HS := Lib.hid hs; clear hs))
    | (go_at_call 32; ((with_reducible refine (HB.go HS.out).mono ?_); rintro e w' ⟨rfl, hs⟩; replace HS := Lib.hid hs; clear hs))
    | (go_at_call 28; ((with_reducible refine (HY.go HS.out).mono ?_); rintro e w' ⟨rfl, hs⟩; replace HS := Lib.hid hs; clear hs))
    | (go_at_call 30; ((with_reducible refine (HM.go HS.out).mono ?_); rintro e w' ⟨rfl, hs⟩; replace HS := Lib.hid hs; clear hs))
    | (go_at_call 30; ((with_reducible refine (G1.go HS.out).mono ?_); rintro e w' ⟨rfl, hs⟩; replace HS := Lib.hid hs; clear hs))
    | (go_at_call 28; ((with_reducible refine (G2.go HS.out).mono ?_); rintro e w' ⟨rfl, hs⟩; replace HS := Lib.hid hs; clear hs))
    | (go_at_call 19; ((with_reducible refine (G3.go HS.out).mono ?_); rintro e w' ⟨rfl, hs⟩; replace HS := Lib.hid hs; clear hs)))
  go_ret
  exact ⟨rfl, HS.out⟩

set_option maxRecDepth 100000 in
set_option maxHeartbeats 1000000 in
theorem Later_ltk (a b n v x Y M D F P Q K : Int) (_hF : 0 ≤ F ∧ F ≤ 2153) (_hn : 0 ≤ F + n ∧ F + n ≤ 2153) (_hD : 1 ≤ D ∧ D ≤ 31) (_hK : 28 ≤ K ∧ K ≤ 31) (_hm : K < D) (_ho : a < b) (_hx : x ≤ v)
    (HA : Ret 32 #[.int .i64 a, .int .i64 n] (.tuple #[.int .i64 x, .int .i64 0]))
    (HB : Ret 32 #[.int .i64 b, .int .i64 n] (.tuple #[.int .i64 v, .int .i64 0]))
    (HY : Ret 28 #[.int .i64 a] (.tuple #[.int .i64 Y, .int .i64 M, .int .i64 D, .int .i64 0]))
    (HM : Ret 30 #[.int .i64 a] (.tuple #[.int .i64 F, .int .i64 0]))
    (G1 : Ret 30 #[.int .i64 x] (.tuple #[.int .i64 (F + n), .int .i64 0]))
    (G2 : Ret 28 #[.int .i64 x] (.tuple #[.int .i64 P, .int .i64 Q, .int .i64 K, .int .i64 0]))
    (G3 : Ret 19 #[.int .i64 P, .int .i64 Q] (.int .i64 K)) :
    Ret 10 #[.int .i64 a, .int .i64 b, .int .i64 n] (.bool true) := by
  intro w0 w hS
  have HS := Lib.hid hS
  clear hS
  go_enter Tryd.func10, Tryd.ntmps10
  go_wp2_with (first
    | (go_at_call 21; ((with_reducible refine (r_awake.go HS.out).mono ?_); rintro e w' ⟨rfl, hs⟩; replace HS := Lib.hid hs; clear hs))
    | (go_at_call 32; ((with_reducible refine (HA.go HS.out).mono ?_); rintro e w' ⟨rfl, hs⟩; replace HS := Lib.hid hs; clear hs))
    | (go_at_call 32; ((with_reducible refine (HB.go HS.out).mono ?_); rintro e w' ⟨rfl, hs⟩; replace HS := Lib.hid hs; clear hs))
    | (go_at_call 28; ((with_reducible refine (HY.go HS.out).mono ?_); rintro e w' ⟨rfl, hs⟩; replace HS := Lib.hid hs; clear hs))
    | (go_at_call 30; ((with_reducible refine (HM.go HS.out).mono ?_); rintro e w' ⟨rfl, hs⟩; replace HS := Lib.hid hs; clear hs))
    | (go_at_call 30; ((with_reducible refine (G1.go HS.out).mono ?_); rintro e w' ⟨rfl, hs⟩; replace HS := Lib.hid hs; clear hs))
    | (go_at_call 28; ((with_reducible refine (G2.go HS.out).mono ?_); rintro e w' ⟨rfl, hs⟩; replace HS := Lib.hid hs; clear hs))
    | (go_at_call 19; ((with_reducible refine (G3.go HS.out).mono ?_); rintro e w' ⟨rfl, hs⟩; replace HS := Lib.hid hs; clear hs)))
  go_ret
  exact ⟨rfl, HS.out⟩

set_option maxRecDepth 100000 in
set_option maxHeartbeats 1000000 in
theorem Later_gtk (a b n v x Y M D F P Q K : Int) (_hF : 0 ≤ F ∧ F ≤ 2153) (_hn : 0 ≤ F + n ∧ F + n ≤ 2153) (_hD : 1 ≤ D ∧ D ≤ 31) (_hK : 28 ≤ K ∧ K ≤ 31) (_hm : K < D) (_ho : b < a) (_hx : v ≤ x)
    (HA : Ret 32 #[.int .i64 a, .int .i64 n] (.tuple #[.int .i64 x, .int .i64 0]))
    (HB : Ret 32 #[.int .i64 b, .int .i64 n] (.tuple #[.int .i64 v, .int .i64 0]))
    (HY : Ret 28 #[.int .i64 a] (.tuple #[.int .i64 Y, .int .i64 M, .int .i64 D, .int .i64 0]))
    (HM : Ret 30 #[.int .i64 a] (.tuple #[.int .i64 F, .int .i64 0]))
    (G1 : Ret 30 #[.int .i64 x] (.tuple #[.int .i64 (F + n), .int .i64 0]))
    (G2 : Ret 28 #[.int .i64 x] (.tuple #[.int .i64 P, .int .i64 Q, .int .i64 K, .int .i64 0]))
    (G3 : Ret 19 #[.int .i64 P, .int .i64 Q] (.int .i64 K)) :
    Ret 10 #[.int .i64 a, .int .i64 b, .int .i64 n] (.bool true) := by
  intro w0 w hS
  have HS := Lib.hid hS
  clear hS
  go_enter Tryd.func10, Tryd.ntmps10
  go_wp2_with (first
    | (go_at_call 21; ((with_reducible refine (r_awake.go HS.out).mono ?_); rintro e w' ⟨rfl, hs⟩; replace HS := Lib.hid hs; clear hs))
    | (go_at_call 32; ((with_reducible refine (HA.go HS.out).mono ?_); rintro e w' ⟨rfl, hs⟩; replace HS := Lib.hid hs; clear hs))
    | (go_at_call 32; ((with_reducible refine (HB.go HS.out).mono ?_); rintro e w' ⟨rfl, hs⟩; replace HS := Lib.hid hs; clear hs))
    | (go_at_call 28; ((with_reducible refine (HY.go HS.out).mono ?_); rintro e w' ⟨rfl, hs⟩; replace HS := Lib.hid hs; clear hs))
    | (go_at_call 30; ((with_reducible refine (HM.go HS.out).mono ?_); rintro e w' ⟨rfl, hs⟩; replace HS := Lib.hid hs; clear hs))
    | (go_at_call 30; ((with_reducible refine (G1.go HS.out).mono ?_); rintro e w' ⟨rfl, hs⟩; replace HS := Lib.hid hs; clear hs))
    | (go_at_call 28; ((with_reducible refine (G2.go HS.out).mono ?_); rintro e w' ⟨rfl, hs⟩; replace HS := Lib.hid hs; clear hs))
    | (go_at_call 19; ((with_reducible refine (G3.go HS.out).mono ?_); rintro e w' ⟨rfl, hs⟩; replace HS := Lib.hid hs; clear hs)))
  go_ret
  exact ⟨rfl, HS.out⟩

set_option maxRecDepth 100000 in
set_option maxHeartbeats 1000000 in
theorem Later_eqk (a n x Y M D F P Q K : Int) (_hF : 0 ≤ F ∧ F ≤ 2153) (_hn : 0 ≤ F + n ∧ F + n ≤ 2153) (_hD : 1 ≤ D ∧ D ≤ 31) (_hK : 28 ≤ K ∧ K ≤ 31) (_hm : K < D) 
    (HA : Ret 32 #[.int .i64 a, .int .i64 n] (.tuple #[.int .i64 x, .int .i64 0]))
    (HY : Ret 28 #[.int .i64 a] (.tuple #[.int .i64 Y, .int .i64 M, .int .i64 D, .int .i64 0]))
    (HM : Ret 30 #[.int .i64 a] (.tuple #[.int .i64 F, .int .i64 0]))
    (G1 : Ret 30 #[.int .i64 x] (.tuple #[.int .i64 (F + n), .int .i64 0]))
    (G2 : Ret 28 #[.int .i64 x] (.tuple #[.int .i64 P, .int .i64 Q, .int .i64 K, .int .i64 0]))
    (G3 : Ret 19 #[.int .i64 P, .int .i64 Q] (.int .i64 K)) :
    Ret 10 #[.int .i64 a, .int .i64 a, .int .i64 n] (.bool true) := by
  intro w0 w hS
  have HS := Lib.hid hS
  clear hS
  go_enter Tryd.func10, Tryd.ntmps10
  go_wp2_with (first
    | (go_at_call 21; ((with_reducible refine (r_awake.go HS.out).mono ?_); rintro e w' ⟨rfl, hs⟩; replace HS := Lib.hid hs; clear hs))
    | (go_at_call 32; ((with_reducible refine (HA.go HS.out).mono ?_); rintro e w' ⟨rfl, hs⟩; replace HS := Lib.hid hs; clear hs))
    | (go_at_call 28; ((with_reducible refine (HY.go HS.out).mono ?_); rintro e w' ⟨rfl, hs⟩; replace HS := Lib.hid hs; clear hs))
    | (go_at_call 30; ((with_reducible refine (HM.go HS.out).mono ?_); rintro e w' ⟨rfl, hs⟩; replace HS := Lib.hid hs; clear hs))
    | (go_at_call 30; ((with_reducible refine (G1.go HS.out).mono ?_); rintro e w' ⟨rfl, hs⟩; replace HS := Lib.hid hs; clear hs))
    | (go_at_call 28; ((with_reducible refine (G2.go HS.out).mono ?_); rintro e w' ⟨rfl, hs⟩; replace HS := Lib.hid hs; clear hs))
    | (go_at_call 19; ((with_reducible refine (G3.go HS.out).mono ?_); rintro e w' ⟨rfl, hs⟩; replace HS := Lib.hid hs; clear hs)))
  go_ret
  exact ⟨rfl, HS.out⟩

set_option maxRecDepth 100000 in
set_option maxHeartbeats 1000000 in
theorem Later_b2d (a b n x Y M D F P Q K : Int) (_hF : 0 ≤ F ∧ F ≤ 2153) (_hn : 0 ≤ F + n ∧ F + n ≤ 2153) (_hD : 1 ≤ D ∧ D ≤ 31) (_hK : 28 ≤ K ∧ K ≤ 31) (_hm : ¬ K < D) 
    (HA : Ret 32 #[.int .i64 a, .int .i64 n] (.tuple #[.int .i64 x, .int .i64 0]))
    (HB : Ret 32 #[.int .i64 b, .int .i64 n] (.tuple #[.int .i64 0, .int .i64 2]))
    (HY : Ret 28 #[.int .i64 a] (.tuple #[.int .i64 Y, .int .i64 M, .int .i64 D, .int .i64 0]))
    (HM : Ret 30 #[.int .i64 a] (.tuple #[.int .i64 F, .int .i64 0]))
    (G1 : Ret 30 #[.int .i64 x] (.tuple #[.int .i64 (F + n), .int .i64 0]))
    (G2 : Ret 28 #[.int .i64 x] (.tuple #[.int .i64 P, .int .i64 Q, .int .i64 D, .int .i64 0]))
    (G3 : Ret 19 #[.int .i64 P, .int .i64 Q] (.int .i64 K)) :
    Ret 10 #[.int .i64 a, .int .i64 b, .int .i64 n] (.bool true) := by
  intro w0 w hS
  have HS := Lib.hid hS
  clear hS
  go_enter Tryd.func10, Tryd.ntmps10
  go_wp2_with (first
    | (go_at_call 21; ((with_reducible refine (r_awake.go HS.out).mono ?_); rintro e w' ⟨rfl, hs⟩; replace HS := Lib.hid hs; clear hs))
    | (go_at_call 32; ((with_reducible refine (HA.go HS.out).mono ?_); rintro e w' ⟨rfl, hs⟩; replace HS := Lib.hid hs; clear hs))
    | (go_at_call 32; ((with_reducible refine (HB.go HS.out).mono ?_); rintro e w' ⟨rfl, hs⟩; replace HS := Lib.hid hs; clear hs))
    | (go_at_call 28; ((with_reducible refine (HY.go HS.out).mono ?_); rintro e w' ⟨rfl, hs⟩; replace HS := Lib.hid hs; clear hs))
    | (go_at_call 30; ((with_reducible refine (HM.go HS.out).mono ?_); rintro e w' ⟨rfl, hs⟩; replace HS := Lib.hid hs; clear hs))
    | (go_at_call 30; ((with_reducible refine (G1.go HS.out).mono ?_); rintro e w' ⟨rfl, hs⟩; replace HS := Lib.hid hs; clear hs))
    | (go_at_call 28; ((with_reducible refine (G2.go HS.out).mono ?_); rintro e w' ⟨rfl, hs⟩; replace HS := Lib.hid hs; clear hs))
    | (go_at_call 19; ((with_reducible refine (G3.go HS.out).mono ?_); rintro e w' ⟨rfl, hs⟩; replace HS := Lib.hid hs; clear hs)))
  go_ret
  exact ⟨rfl, HS.out⟩

set_option maxRecDepth 100000 in
set_option maxHeartbeats 1000000 in
theorem Later_b30d (a b n x Y M D F P Q K : Int) (_hF : 0 ≤ F ∧ F ≤ 2153) (_hn : 0 ≤ F + n ∧ F + n ≤ 2153) (_hD : 1 ≤ D ∧ D ≤ 31) (_hK : 28 ≤ K ∧ K ≤ 31) (_hm : ¬ K < D) 
    (HA : Ret 32 #[.int .i64 a, .int .i64 n] (.tuple #[.int .i64 x, .int .i64 0]))
    (HB : Ret 32 #[.int .i64 b, .int .i64 n] (.tuple #[.int .i64 0, .int .i64 30]))
    (HY : Ret 28 #[.int .i64 a] (.tuple #[.int .i64 Y, .int .i64 M, .int .i64 D, .int .i64 0]))
    (HM : Ret 30 #[.int .i64 a] (.tuple #[.int .i64 F, .int .i64 0]))
    (G1 : Ret 30 #[.int .i64 x] (.tuple #[.int .i64 (F + n), .int .i64 0]))
    (G2 : Ret 28 #[.int .i64 x] (.tuple #[.int .i64 P, .int .i64 Q, .int .i64 D, .int .i64 0]))
    (G3 : Ret 19 #[.int .i64 P, .int .i64 Q] (.int .i64 K)) :
    Ret 10 #[.int .i64 a, .int .i64 b, .int .i64 n] (.bool true) := by
  intro w0 w hS
  have HS := Lib.hid hS
  clear hS
  go_enter Tryd.func10, Tryd.ntmps10
  go_wp2_with (first
    | (go_at_call 21; ((with_reducible refine (r_awake.go HS.out).mono ?_); rintro e w' ⟨rfl, hs⟩; replace HS := Lib.hid hs; clear hs))
    | (go_at_call 32; ((with_reducible refine (HA.go HS.out).mono ?_); rintro e w' ⟨rfl, hs⟩; replace HS := Lib.hid hs; clear hs))
    | (go_at_call 32; ((with_reducible refine (HB.go HS.out).mono ?_); rintro e w' ⟨rfl, hs⟩; replace HS := Lib.hid hs; clear hs))
    | (go_at_call 28; ((with_reducible refine (HY.go HS.out).mono ?_); rintro e w' ⟨rfl, hs⟩; replace HS := Lib.hid hs; clear hs))
    | (go_at_call 30; ((with_reducible refine (HM.go HS.out).mono ?_); rintro e w' ⟨rfl, hs⟩; replace HS := Lib.hid hs; clear hs))
    | (go_at_call 30; ((with_reducible refine (G1.go HS.out).mono ?_); rintro e w' ⟨rfl, hs⟩; replace HS := Lib.hid hs; clear hs))
    | (go_at_call 28; ((with_reducible refine (G2.go HS.out).mono ?_); rintro e w' ⟨rfl, hs⟩; replace HS := Lib.hid hs; clear hs))
    | (go_at_call 19; ((with_reducible refine (G3.go HS.out).mono ?_); rintro e w' ⟨rfl, hs⟩; replace HS := Lib.hid hs; clear hs)))
  go_ret
  exact ⟨rfl, HS.out⟩

set_option maxRecDepth 100000 in
set_option maxHeartbeats 1000000 in
theorem Later_ltd (a b n v x Y M D F P Q K : Int) (_hF : 0 ≤ F ∧ F ≤ 2153) (_hn : 0 ≤ F + n ∧ F + n ≤ 2153) (_hD : 1 ≤ D ∧ D ≤ 31) (_hK : 28 ≤ K ∧ K ≤ 31) (_hm : ¬ K < D) (_ho : a < b) (_hx : x ≤ v)
    (HA : Ret 32 #[.int .i64 a, .int .i64 n] (.tuple #[.int .i64 x, .int .i64 0]))
    (HB : Ret 32 #[.int .i64 b, .int .i64 n] (.tuple #[.int .i64 v, .int .i64 0]))
    (HY : Ret 28 #[.int .i64 a] (.tuple #[.int .i64 Y, .int .i64 M, .int .i64 D, .int .i64 0]))
    (HM : Ret 30 #[.int .i64 a] (.tuple #[.int .i64 F, .int .i64 0]))
    (G1 : Ret 30 #[.int .i64 x] (.tuple #[.int .i64 (F + n), .int .i64 0]))
    (G2 : Ret 28 #[.int .i64 x] (.tuple #[.int .i64 P, .int .i64 Q, .int .i64 D, .int .i64 0]))
    (G3 : Ret 19 #[.int .i64 P, .int .i64 Q] (.int .i64 K)) :
    Ret 10 #[.int .i64 a, .int .i64 b, .int .i64 n] (.bool true) := by
  intro w0 w hS
  have HS := Lib.hid hS
  clear hS
  go_enter Tryd.func10, Tryd.ntmps10
  go_wp2_with (first
    | (go_at_call 21; ((with_reducible refine (r_awake.go HS.out).mono ?_); rintro e w' ⟨rfl, hs⟩; replace HS := Lib.hid hs; clear hs))
    | (go_at_call 32; ((with_reducible refine (HA.go HS.out).mono ?_); rintro e w' ⟨rfl, hs⟩; replace HS := Lib.hid hs; clear hs))
    | (go_at_call 32; ((with_reducible refine (HB.go HS.out).mono ?_); rintro e w' ⟨rfl, hs⟩; replace HS := Lib.hid hs; clear hs))
    | (go_at_call 28; ((with_reducible refine (HY.go HS.out).mono ?_); rintro e w' ⟨rfl, hs⟩; replace HS := Lib.hid hs; clear hs))
    | (go_at_call 30; ((with_reducible refine (HM.go HS.out).mono ?_); rintro e w' ⟨rfl, hs⟩; replace HS := Lib.hid hs; clear hs))
    | (go_at_call 30; ((with_reducible refine (G1.go HS.out).mono ?_); rintro e w' ⟨rfl, hs⟩; replace HS := Lib.hid hs; clear hs))
    | (go_at_call 28; ((with_reducible refine (G2.go HS.out).mono ?_); rintro e w' ⟨rfl, hs⟩; replace HS := Lib.hid hs; clear hs))
    | (go_at_call 19; ((with_reducible refine (G3.go HS.out).mono ?_); rintro e w' ⟨rfl, hs⟩; replace HS := Lib.hid hs; clear hs)))
  go_ret
  exact ⟨rfl, HS.out⟩

set_option maxRecDepth 100000 in
set_option maxHeartbeats 1000000 in
theorem Later_gtd (a b n v x Y M D F P Q K : Int) (_hF : 0 ≤ F ∧ F ≤ 2153) (_hn : 0 ≤ F + n ∧ F + n ≤ 2153) (_hD : 1 ≤ D ∧ D ≤ 31) (_hK : 28 ≤ K ∧ K ≤ 31) (_hm : ¬ K < D) (_ho : b < a) (_hx : v ≤ x)
    (HA : Ret 32 #[.int .i64 a, .int .i64 n] (.tuple #[.int .i64 x, .int .i64 0]))
    (HB : Ret 32 #[.int .i64 b, .int .i64 n] (.tuple #[.int .i64 v, .int .i64 0]))
    (HY : Ret 28 #[.int .i64 a] (.tuple #[.int .i64 Y, .int .i64 M, .int .i64 D, .int .i64 0]))
    (HM : Ret 30 #[.int .i64 a] (.tuple #[.int .i64 F, .int .i64 0]))
    (G1 : Ret 30 #[.int .i64 x] (.tuple #[.int .i64 (F + n), .int .i64 0]))
    (G2 : Ret 28 #[.int .i64 x] (.tuple #[.int .i64 P, .int .i64 Q, .int .i64 D, .int .i64 0]))
    (G3 : Ret 19 #[.int .i64 P, .int .i64 Q] (.int .i64 K)) :
    Ret 10 #[.int .i64 a, .int .i64 b, .int .i64 n] (.bool true) := by
  intro w0 w hS
  have HS := Lib.hid hS
  clear hS
  go_enter Tryd.func10, Tryd.ntmps10
  go_wp2_with (first
    | (go_at_call 21; ((with_reducible refine (r_awake.go HS.out).mono ?_); rintro e w' ⟨rfl, hs⟩; replace HS := Lib.hid hs; clear hs))
    | (go_at_call 32; ((with_reducible refine (HA.go HS.out).mono ?_); rintro e w' ⟨rfl, hs⟩; replace HS := Lib.hid hs; clear hs))
    | (go_at_call 32; ((with_reducible refine (HB.go HS.out).mono ?_); rintro e w' ⟨rfl, hs⟩; replace HS := Lib.hid hs; clear hs))
    | (go_at_call 28; ((with_reducible refine (HY.go HS.out).mono ?_); rintro e w' ⟨rfl, hs⟩; replace HS := Lib.hid hs; clear hs))
    | (go_at_call 30; ((with_reducible refine (HM.go HS.out).mono ?_); rintro e w' ⟨rfl, hs⟩; replace HS := Lib.hid hs; clear hs))
    | (go_at_call 30; ((with_reducible refine (G1.go HS.out).mono ?_); rintro e w' ⟨rfl, hs⟩; replace HS := Lib.hid hs; clear hs))
    | (go_at_call 28; ((with_reducible refine (G2.go HS.out).mono ?_); rintro e w' ⟨rfl, hs⟩; replace HS := Lib.hid hs; clear hs))
    | (go_at_call 19; ((with_reducible refine (G3.go HS.out).mono ?_); rintro e w' ⟨rfl, hs⟩; replace HS := Lib.hid hs; clear hs)))
  go_ret
  exact ⟨rfl, HS.out⟩

set_option maxRecDepth 100000 in
set_option maxHeartbeats 1000000 in
theorem Later_eqd (a n x Y M D F P Q K : Int) (_hF : 0 ≤ F ∧ F ≤ 2153) (_hn : 0 ≤ F + n ∧ F + n ≤ 2153) (_hD : 1 ≤ D ∧ D ≤ 31) (_hK : 28 ≤ K ∧ K ≤ 31) (_hm : ¬ K < D) 
    (HA : Ret 32 #[.int .i64 a, .int .i64 n] (.tuple #[.int .i64 x, .int .i64 0]))
    (HY : Ret 28 #[.int .i64 a] (.tuple #[.int .i64 Y, .int .i64 M, .int .i64 D, .int .i64 0]))
    (HM : Ret 30 #[.int .i64 a] (.tuple #[.int .i64 F, .int .i64 0]))
    (G1 : Ret 30 #[.int .i64 x] (.tuple #[.int .i64 (F + n), .int .i64 0]))
    (G2 : Ret 28 #[.int .i64 x] (.tuple #[.int .i64 P, .int .i64 Q, .int .i64 D, .int .i64 0]))
    (G3 : Ret 19 #[.int .i64 P, .int .i64 Q] (.int .i64 K)) :
    Ret 10 #[.int .i64 a, .int .i64 a, .int .i64 n] (.bool true) := by
  intro w0 w hS
  have HS := Lib.hid hS
  clear hS
  go_enter Tryd.func10, Tryd.ntmps10
  go_wp2_with (first
    | (go_at_call 21; ((with_reducible refine (r_awake.go HS.out).mono ?_); rintro e w' ⟨rfl, hs⟩; replace HS := Lib.hid hs; clear hs))
    | (go_at_call 32; ((with_reducible refine (HA.go HS.out).mono ?_); rintro e w' ⟨rfl, hs⟩; replace HS := Lib.hid hs; clear hs))
    | (go_at_call 28; ((with_reducible refine (HY.go HS.out).mono ?_); rintro e w' ⟨rfl, hs⟩; replace HS := Lib.hid hs; clear hs))
    | (go_at_call 30; ((with_reducible refine (HM.go HS.out).mono ?_); rintro e w' ⟨rfl, hs⟩; replace HS := Lib.hid hs; clear hs))
    | (go_at_call 30; ((with_reducible refine (G1.go HS.out).mono ?_); rintro e w' ⟨rfl, hs⟩; replace HS := Lib.hid hs; clear hs))
    | (go_at_call 28; ((with_reducible refine (G2.go HS.out).mono ?_); rintro e w' ⟨rfl, hs⟩; replace HS := Lib.hid hs; clear hs))
    | (go_at_call 19; ((with_reducible refine (G3.go HS.out).mono ?_); rintro e w' ⟨rfl, hs⟩; replace HS := Lib.hid hs; clear hs)))
  go_ret
  exact ⟨rfl, HS.out⟩

theorem mon_end : Cal.mon 65535 = 2153 := Cal.mon_65535

theorem Later_walk (a b n : Int) : Ret 10 #[.int .i64 a, .int .i64 b, .int .i64 n] (.bool true) := by
  by_cases ha : a < 0 ∨ 65536 ≤ a
  · obtain ⟨v, f, HB⟩ : ∃ v f : Int, Ret 32 #[.int .i64 b, .int .i64 n] (.tuple #[.int .i64 v, .int .i64 f]) := by
      by_cases hb : b < 0 ∨ 65536 ≤ b
      · exact ⟨_, _, r_add_no b n hb⟩
      · rcases Bool.eq_false_or_eq_true (Cal.laterB b n) with h | h
        · exact ⟨_, _, r_add_yes b n (by omega) (by omega) h⟩
        · exact ⟨_, _, r_add_err b n (by omega) (by omega) h⟩
    exact Later_no a b n v f (r_add_no a n ha) HB (r_ymd_no a ha)
  have h0 : 0 ≤ a := by omega
  have h1 : a < 65536 := by omega
  obtain ⟨m0, m1, _, _⟩ := Cal.mon_spec h0 h1
  have hY := r_ymd_yes a h0 h1
  have hM := r_month_yes a h0 h1
  have hd := Cal.dom_bd h0 h1
  rcases Bool.eq_false_or_eq_true (Cal.laterB a n) with hl | hl
  · have hl' := of_decide_eq_true hl
    have hA := r_add_yes a n h0 h1 hl
    have lb := Cal.laterN_bd h0 h1 hl'.1 hl'.2.1
    have la := Cal.later_at h0 h1 hl
    have g1 := r_month_yes (Cal.laterN a n) lb.1 hl'.2.2
    have g2 := r_ymd_yes (Cal.laterN a n) lb.1 hl'.2.2
    rw [la.1] at g1
    rw [la.1, la.2] at g2
    have g3 := r_len (Cal.yr (Cal.mon a + n)) (Cal.mo (Cal.mon a + n)) (by have := Cal.mo_bd (Cal.mon a + n); omega)
    rw [← Cal.mlen_ym] at g3
    have hk := Cal.mlen_bd (Cal.mon a + n)
    have hF : 0 ≤ Cal.mon a ∧ Cal.mon a ≤ 2153 := ⟨m0, m1⟩
    have hn : 0 ≤ Cal.mon a + n ∧ Cal.mon a + n ≤ 2153 := by omega
    have hD : 1 ≤ Cal.dom a ∧ Cal.dom a ≤ 31 := ⟨hd.1, hd.2.2⟩
    by_cases hm : Cal.mlen (Cal.mon a + n) < Cal.dom a
    · rw [show min (Cal.dom a) (Cal.mlen (Cal.mon a + n)) = Cal.mlen (Cal.mon a + n) by omega] at g2
      by_cases hb : b < 0 ∨ 65536 ≤ b
      · exact Later_b2k a b n _ _ _ _ _ _ _ _ hF hn hD hk hm hA (r_add_no b n hb) hY hM g1 g2 g3
      rcases Bool.eq_false_or_eq_true (Cal.laterB b n) with hlb | hlb
      · have hlb' := of_decide_eq_true hlb
        have hB := r_add_yes b n (by omega) (by omega) hlb
        rcases Int.lt_trichotomy a b with ho | ho | ho
        · exact Later_ltk a b n _ _ _ _ _ _ _ _ _ hF hn hD hk hm ho (Cal.later_le h0 (by omega) (by omega) hl'.1 hlb'.2.1) hA hB hY hM g1 g2 g3
        · subst ho
          exact Later_eqk a n _ _ _ _ _ _ _ _ hF hn hD hk hm hA hY hM g1 g2 g3
        · exact Later_gtk a b n _ _ _ _ _ _ _ _ _ hF hn hD hk hm ho (Cal.later_le (by omega) (by omega) h1 hlb'.1 hl'.2.1) hA hB hY hM g1 g2 g3
      · exact Later_b30k a b n _ _ _ _ _ _ _ _ hF hn hD hk hm hA (r_add_err b n (by omega) (by omega) hlb) hY hM g1 g2 g3
    · rw [show min (Cal.dom a) (Cal.mlen (Cal.mon a + n)) = Cal.dom a by omega] at g2
      by_cases hb : b < 0 ∨ 65536 ≤ b
      · exact Later_b2d a b n _ _ _ _ _ _ _ _ hF hn hD hk hm hA (r_add_no b n hb) hY hM g1 g2 g3
      rcases Bool.eq_false_or_eq_true (Cal.laterB b n) with hlb | hlb
      · have hlb' := of_decide_eq_true hlb
        have hB := r_add_yes b n (by omega) (by omega) hlb
        rcases Int.lt_trichotomy a b with ho | ho | ho
        · exact Later_ltd a b n _ _ _ _ _ _ _ _ _ hF hn hD hk hm ho (Cal.later_le h0 (by omega) (by omega) hl'.1 hlb'.2.1) hA hB hY hM g1 g2 g3
        · subst ho
          exact Later_eqd a n _ _ _ _ _ _ _ _ hF hn hD hk hm hA hY hM g1 g2 g3
        · exact Later_gtd a b n _ _ _ _ _ _ _ _ _ hF hn hD hk hm ho (Cal.later_le (by omega) (by omega) h1 hlb'.1 hl'.2.1) hA hB hY hM g1 g2 g3
      · exact Later_b30d a b n _ _ _ _ _ _ _ _ hF hn hD hk hm hA (r_add_err b n (by omega) (by omega) hlb) hY hM g1 g2 g3
  · have hA := r_add_err a n h0 h1 hl
    have g1 := r_month_yes 65535 (by omega) (by omega)
    have g2 := r_ymd_yes 65535 (by omega) (by omega)
    rw [Cal.mon_65535] at g1 g2
    rw [Cal.dom_65535] at g2
    obtain ⟨v, f, HB⟩ : ∃ v f : Int, Ret 32 #[.int .i64 b, .int .i64 n] (.tuple #[.int .i64 v, .int .i64 f]) := by
      by_cases hb : b < 0 ∨ 65536 ≤ b
      · exact ⟨_, _, r_add_no b n hb⟩
      · rcases Bool.eq_false_or_eq_true (Cal.laterB b n) with h | h
        · exact ⟨_, _, r_add_yes b n (by omega) (by omega) h⟩
        · exact ⟨_, _, r_add_err b n (by omega) (by omega) h⟩
    rcases Cal.later_far h0 h1 hl with hf | hf | ⟨hf, hD⟩
    · exact Later_lo a b n v f _ _ _ _ ⟨m0, m1⟩ hf hA HB hY hM g1 g2
    · exact Later_hi a b n v f _ _ _ _ ⟨m0, m1⟩ hf hA HB hY hM g1 g2
    · rw [hf] at hA HB ⊢
      exact Later_end a b v f _ _ _ _ ⟨m0, m1⟩ hD hA HB hY hM g1 g2

end Go.Proofs.YtmjmpdbkijhkiaaDoor
