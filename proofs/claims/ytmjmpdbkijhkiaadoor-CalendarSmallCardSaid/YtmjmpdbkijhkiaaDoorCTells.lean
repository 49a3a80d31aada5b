/-
'moves', 'tells', 'CalendarDays', 'CalendarMoves', 'CalendarTells', over what the functions answer.
-/
import Derived.Test.YtmjmpdbkijhkiaaDoorCRet
import Derived.Test.YtmjmpdbkijhkiaaDoorCLaid
import Derived.Test.YtmjmpdbkijhkiaaDoorCRefText
namespace Go.Proofs.YtmjmpdbkijhkiaaDoor
open Go.RowKit

theorem Pure.ret {f : Nat} {args : Array Value} {v : Value} (h : Pure f args v) : Ret f args v := fun _ w hS => (h w).mono fun _ _ ⟨he, hw⟩ => ⟨he, hw ▸ hS⟩

set_option maxRecDepth 100000 in
set_option maxHeartbeats 1000000 in
theorem moves_v (a b n x e m g p i : Int)
    (H1 : Ret 32 #[.int .i64 a, .int .i64 n] (.tuple #[.int .i64 x, .int .i64 e]))
    (G1 : Ret 42 #[.int .i64 a, .int .i64 n] (.tuple #[.int .i64 x, .int .i64 e]))
    (H2 : Ret 33 #[.int .i64 a, .int .i64 b] (.tuple #[.int .i64 m, .int .i64 g]))
    (G2 : Ret 43 #[.int .i64 a, .int .i64 b] (.tuple #[.int .i64 m, .int .i64 g]))
    (H3 : Ret 34 #[.int .i64 a, .int .i64 b] (.tuple #[.int .i64 p, .int .i64 i]))
    (G3 : Ret 44 #[.int .i64 a, .int .i64 b] (.tuple #[.int .i64 p, .int .i64 i])) :
    Ret 23 #[.int .i64 a, .int .i64 b, .int .i64 n] (.bool true) := by
  intro w0 w hS
  have HS := Lib.hid hS
  clear hS
  go_enter Tryd.func23, Tryd.ntmps23
  go_wp2_with (first
    | (go_at_call 32; ((with_reducible refine (H1.go HS.out).mono ?_); rintro e w' ⟨rfl, hs⟩; replace HS := Lib.hid hs; clear hs))
    | (go_at_call 42; ((with_reducible refine (G1.go HS.out).mono ?_); rintro e w' ⟨rfl, hs⟩; replace HS := Lib.hid hs; clear hs))
    | (go_at_call 33; ((with_reducible refine (H2.go HS.out).mono ?_); rintro e w' ⟨rfl, hs⟩; replace HS := Lib.hid hs; clear hs))
    | (go_at_call 43; ((with_reducible refine (G2.go HS.out).mono ?_); rintro e w' ⟨rfl, hs⟩; replace HS := Lib.hid hs; clear hs))
    | (go_at_call 34; ((with_reducible refine (H3.go HS.out).mono ?_); rintro e w' ⟨rfl, hs⟩; replace HS := Lib.hid hs; clear hs))
    | (go_at_call 44; ((with_reducible refine (G3.go HS.out).mono ?_); rintro e w' ⟨rfl, hs⟩; replace HS := Lib.hid hs; clear hs)))
  go_ret
  exact ⟨rfl, HS.out⟩

theorem add_both (a n : Int) : ∃ x e : Int, Ret 32 #[.int .i64 a, .int .i64 n] (.tuple #[.int .i64 x, .int .i64 e]) ∧ Ret 42 #[.int .i64 a, .int .i64 n] (.tuple #[.int .i64 x, .int .i64 e]) := by
  by_cases ha : a < 0 ∨ 65536 ≤ a
  · exact ⟨_, _, r_add_no a n ha, (ref_add_no a n ha).ret⟩
  · have r := (ref_add a n (by omega) (by omega)).ret
    rcases Bool.eq_false_or_eq_true (Cal.laterB a n) with h | h
    · rw [if_pos h] at r
      exact ⟨_, _, r_add_yes a n (by omega) (by omega) h, r⟩
    · rw [if_neg (by rw [h]; decide)] at r
      exact ⟨_, _, r_add_err a n (by omega) (by omega) h, r⟩
theorem btw_both (a b : Int) : ∃ x e : Int, Ret 33 #[.int .i64 a, .int .i64 b] (.tuple #[.int .i64 x, .int .i64 e]) ∧ Ret 43 #[.int .i64 a, .int .i64 b] (.tuple #[.int .i64 x, .int .i64 e]) := by
  by_cases ha : (a < 0 ∨ 65536 ≤ a) ∨ (b < 0 ∨ 65536 ≤ b)
  · exact ⟨_, _, r_btw_no a b ha, (ref_btw_no a b ha).ret⟩
  · by_cases h : a ≤ b
    · exact ⟨_, _, r_btw_le a b (by omega) h (by omega), (ref_btw_le a b (by omega) h (by omega)).ret⟩
    · exact ⟨_, _, r_btw_gt a b (by omega) (by omega) (by omega), (ref_btw_gt a b (by omega) (by omega) (by omega)).ret⟩
theorem age_both (a b : Int) : ∃ x e : Int, Ret 34 #[.int .i64 a, .int .i64 b] (.tuple #[.int .i64 x, .int .i64 e]) ∧ Ret 44 #[.int .i64 a, .int .i64 b] (.tuple #[.int .i64 x, .int .i64 e]) := by
  by_cases ha : (a < 0 ∨ 65536 ≤ a) ∨ (b < 0 ∨ 65536 ≤ b)
  · exact ⟨_, _, r_age_no a b ha, (ref_age_no a b ha).ret⟩
  · by_cases h : a ≤ b
    · exact ⟨_, _, r_age_yes a b (by omega) h (by omega), (ref_age a b (by omega) h (by omega)).ret⟩
    · exact ⟨_, _, r_age_gt a b (by omega) (by omega) (by omega), (ref_age_gt a b (by omega) (by omega) (by omega)).ret⟩
theorem r_moves (a b n : Int) : Ret 23 #[.int .i64 a, .int .i64 b, .int .i64 n] (.bool true) := by
  obtain ⟨x, e, h1, g1⟩ := add_both a n
  obtain ⟨m, g, h2, g2⟩ := btw_both a b
  obtain ⟨p, i, h3, g3⟩ := age_both a b
  exact moves_v a b n x e m g p i h1 g1 h2 g2 h3 g3

set_option maxRecDepth 100000 in
set_option maxHeartbeats 1000000 in
theorem Moves_v (a b n : Int)
    (H1 : Ret 23 #[.int .i64 a, .int .i64 b, .int .i64 n] (.bool true))
    (H2 : Ret 23 #[.int .i64 b, .int .i64 a, .int .i64 n] (.bool true)) :
    Ret 5 #[.int .i64 a, .int .i64 b, .int .i64 n] (.bool true) := by
  intro w0 w hS
  have HS := Lib.hid hS
  clear hS
  go_enter Tryd.func5, Tryd.ntmps5
  go_wp2_with (first
    | (go_at_call 23; ((with_reducible refine (H1.go HS.out).mono ?_); rintro e w' ⟨rfl, hs⟩; replace HS := Lib.hid hs; clear hs))
    | (go_at_call 23; ((with_reducible refine (H2.go HS.out).mono ?_); rintro e w' ⟨rfl, hs⟩; replace HS := Lib.hid hs; clear hs))
    | (go_at_call 21; ((with_reducible refine (r_awake.go HS.out).mono ?_); rintro e w' ⟨rfl, hs⟩; replace HS := Lib.hid hs; clear hs)))
  go_ret
  exact ⟨rfl, HS.out⟩

theorem Moves_walk (a b n : Int) : Ret 5 #[.int .i64 a, .int .i64 b, .int .i64 n] (.bool true) := Moves_v a b n (r_moves a b n) (r_moves b a n)

set_option maxRecDepth 100000 in
set_option maxHeartbeats 1000000 in
theorem tells_v (d y m q e n g x i v l : Int) (s : ByteArray)
    (H1 : Ret 28 #[.int .i64 d] (.tuple #[.int .i64 y, .int .i64 m, .int .i64 q, .int .i64 e]))
    (G1 : Ret 38 #[.int .i64 d] (.tuple #[.int .i64 y, .int .i64 m, .int .i64 q, .int .i64 e]))
    (H2 : Ret 30 #[.int .i64 d] (.tuple #[.int .i64 n, .int .i64 g]))
    (G2 : Ret 39 #[.int .i64 d] (.tuple #[.int .i64 n, .int .i64 g]))
    (H3 : Ret 31 #[.int .i64 d] (.tuple #[.int .i64 x, .int .i64 i]))
    (G3 : Ret 26 #[.int .i64 d] (.tuple #[.int .i64 x, .int .i64 i]))
    (H4 : Ret 29 #[.int .i64 d] (.tuple #[.int .i64 v, .int .i64 l]))
    (G4 : Ret 40 #[.int .i64 d] (.tuple #[.int .i64 v, .int .i64 l]))
    (H5 : Ret 35 #[.int .i64 d] (.string s))
    (G5 : Ret 41 #[.int .i64 d] (.string s)) :
    Ret 22 #[.int .i64 d] (.bool true) := by
  intro w0 w hS
  have HS := Lib.hid hS
  clear hS
  go_enter Tryd.func22, Tryd.ntmps22
  go_wp2_with (first
    | (go_at_call 28; ((with_reducible refine (H1.go HS.out).mono ?_); rintro e w' ⟨rfl, hs⟩; replace HS := Lib.hid hs; clear hs))
    | (go_at_call 38; ((with_reducible refine (G1.go HS.out).mono ?_); rintro e w' ⟨rfl, hs⟩; replace HS := Lib.hid hs; clear hs))
    | (go_at_call 30; ((with_reducible refine (H2.go HS.out).mono ?_); rintro e w' ⟨rfl, hs⟩; replace HS := Lib.hid hs; clear hs))
    | (go_at_call 39; ((with_reducible refine (G2.go HS.out).mono ?_); rintro e w' ⟨rfl, hs⟩; replace HS := Lib.hid hs; clear hs))
    | (go_at_call 31; ((with_reducible refine (H3.go HS.out).mono ?_); rintro e w' ⟨rfl, hs⟩; replace HS := Lib.hid hs; clear hs))
    | (go_at_call 26; ((with_reducible refine (G3.go HS.out).mono ?_); rintro e w' ⟨rfl, hs⟩; replace HS := Lib.hid hs; clear hs))
    | (go_at_call 29; ((with_reducible refine (H4.go HS.out).mono ?_); rintro e w' ⟨rfl, hs⟩; replace HS := Lib.hid hs; clear hs))
    | (go_at_call 40; ((with_reducible refine (G4.go HS.out).mono ?_); rintro e w' ⟨rfl, hs⟩; replace HS := Lib.hid hs; clear hs))
    | (go_at_call 35; ((with_reducible refine (H5.go HS.out).mono ?_); rintro e w' ⟨rfl, hs⟩; replace HS := Lib.hid hs; clear hs))
    | (go_at_call 41; ((with_reducible refine (G5.go HS.out).mono ?_); rintro e w' ⟨rfl, hs⟩; replace HS := Lib.hid hs; clear hs)))
  go_ret
  exact ⟨rfl, HS.out⟩

theorem r_tells (d : Int) : Ret 22 #[.int .i64 d] (.bool true) := by
  obtain ⟨x, i, h3, g3⟩ : ∃ x i : Int, Ret 31 #[.int .i64 d] (.tuple #[.int .i64 x, .int .i64 i]) ∧ Ret 26 #[.int .i64 d] (.tuple #[.int .i64 x, .int .i64 i]) := by
    by_cases h : d < 0 ∨ 2154 ≤ d
    · exact ⟨_, _, r_first_no d h, (ref_first_no d h).ret⟩
    · exact ⟨_, _, r_first_yes d (by omega) (by omega), (ref_first d (by omega) (by omega)).ret⟩
  by_cases h : d < 0 ∨ 65536 ≤ d
  · exact tells_v d _ _ _ _ _ _ x i _ _ _ (r_ymd_no d h) (ref_ymd_no d h).ret (r_month_no d h) (ref_month_no d h).ret h3 g3 (r_week_no d h) (ref_week_no d h).ret (r_text_no d h) (fun _ _ hS => refText_no d h hS)
  · have h0 : 0 ≤ d := by omega
    have h1 : d < 65536 := by omega
    exact tells_v d _ _ _ _ _ _ x i _ _ _ (r_ymd_yes d h0 h1) (ref_ymd d h0 h1).ret (r_month_yes d h0 h1) (ref_month d h0 h1).ret h3 g3 (r_week_yes d h0 h1) (ref_week d h0 h1).ret (r_text_yes d h0 h1) (fun _ _ hS => refText_yes d h0 h1 hS)

set_option maxRecDepth 100000 in
set_option maxHeartbeats 1000000 in
theorem Tells_v (d : Int)
    (H1 : Ret 22 #[.int .i64 d] (.bool true)) :
    Ret 4 #[.int .i64 d] (.bool true) := by
  intro w0 w hS
  have HS := Lib.hid hS
  clear hS
  go_enter Tryd.func4, Tryd.ntmps4
  go_wp2_with (first
    | (go_at_call 22; ((with_reducible refine (H1.go HS.out).mono ?_); rintro e w' ⟨rfl, hs⟩; replace HS := Lib.hid hs; clear hs))
    | (go_at_call 21; ((with_reducible refine (r_awake.go HS.out).mono ?_); rintro e w' ⟨rfl, hs⟩; replace HS := Lib.hid hs; clear hs)))
  go_ret
  exact ⟨rfl, HS.out⟩

theorem Tells_walk (d : Int) : Ret 4 #[.int .i64 d] (.bool true) := Tells_v d (r_tells d)

set_option maxRecDepth 100000 in
set_option maxHeartbeats 1000000 in
theorem Days_true (y m d x e k : Int)
    (H1 : Ret 15 #[.int .i64 y, .int .i64 m, .int .i64 d] (.tuple #[.int .i64 x, .int .i64 e]))
    (G1 : Ret 16 #[.int .i64 y, .int .i64 m, .int .i64 d] (.tuple #[.int .i64 x, .int .i64 e]))
    (H2 : Ret 17 #[.int .i64 y] (.bool true))
    (G2 : Ret 18 #[.int .i64 y] (.bool true))
    (H3 : Ret 19 #[.int .i64 y, .int .i64 m] (.int .i64 k))
    (G3 : Ret 20 #[.int .i64 y, .int .i64 m] (.int .i64 k)) :
    Ret 3 #[.int .i64 y, .int .i64 m, .int .i64 d] (.bool true) := by
  intro w0 w hS
  have HS := Lib.hid hS
  clear hS
  go_enter Tryd.func3, Tryd.ntmps3
  go_wp2_with (first
    | (go_at_call 15; ((with_reducible refine (H1.go HS.out).mono ?_); rintro e w' ⟨rfl, hs⟩; replace HS := Lib.hid hs; clear hs))
    | (go_at_call 16; ((with_reducible refine (G1.go HS.out).mono ?_); rintro e w' ⟨rfl, hs⟩; replace HS := Lib.hid hs; clear hs))
    | (go_at_call 17; ((with_reducible refine (H2.go HS.out).mono ?_); rintro e w' ⟨rfl, hs⟩; replace HS := Lib.hid hs; clear hs))
    | (go_at_call 18; ((with_reducible refine (G2.go HS.out).mono ?_); rintro e w' ⟨rfl, hs⟩; replace HS := Lib.hid hs; clear hs))
    | (go_at_call 19; ((with_reducible refine (H3.go HS.out).mono ?_); rintro e w' ⟨rfl, hs⟩; replace HS := Lib.hid hs; clear hs))
    | (go_at_call 20; ((with_reducible refine (G3.go HS.out).mono ?_); rintro e w' ⟨rfl, hs⟩; replace HS := Lib.hid hs; clear hs))
    | (go_at_call 21; ((with_reducible refine (r_awake.go HS.out).mono ?_); rintro e w' ⟨rfl, hs⟩; replace HS := Lib.hid hs; clear hs)))
  go_ret
  exact ⟨rfl, HS.out⟩

set_option maxRecDepth 100000 in
set_option maxHeartbeats 1000000 in
theorem Days_false (y m d x e k : Int)
    (H1 : Ret 15 #[.int .i64 y, .int .i64 m, .int .i64 d] (.tuple #[.int .i64 x, .int .i64 e]))
    (G1 : Ret 16 #[.int .i64 y, .int .i64 m, .int .i64 d] (.tuple #[.int .i64 x, .int .i64 e]))
    (H2 : Ret 17 #[.int .i64 y] (.bool false))
    (G2 : Ret 18 #[.int .i64 y] (.bool false))
    (H3 : Ret 19 #[.int .i64 y, .int .i64 m] (.int .i64 k))
    (G3 : Ret 20 #[.int .i64 y, .int .i64 m] (.int .i64 k)) :
    Ret 3 #[.int .i64 y, .int .i64 m, .int .i64 d] (.bool true) := by
  intro w0 w hS
  have HS := Lib.hid hS
  clear hS
  go_enter Tryd.func3, Tryd.ntmps3
  go_wp2_with (first
    | (go_at_call 15; ((with_reducible refine (H1.go HS.out).mono ?_); rintro e w' ⟨rfl, hs⟩; replace HS := Lib.hid hs; clear hs))
    | (go_at_call 16; ((with_reducible refine (G1.go HS.out).mono ?_); rintro e w' ⟨rfl, hs⟩; replace HS := Lib.hid hs; clear hs))
    | (go_at_call 17; ((with_reducible refine (H2.go HS.out).mono ?_); rintro e w' ⟨rfl, hs⟩; replace HS := Lib.hid hs; clear hs))
    | (go_at_call 18; ((with_reducible refine (G2.go HS.out).mono ?_); rintro e w' ⟨rfl, hs⟩; replace HS := Lib.hid hs; clear hs))
    | (go_at_call 19; ((with_reducible refine (H3.go HS.out).mono ?_); rintro e w' ⟨rfl, hs⟩; replace HS := Lib.hid hs; clear hs))
    | (go_at_call 20; ((with_reducible refine (G3.go HS.out).mono ?_); rintro e w' ⟨rfl, hs⟩; replace HS := Lib.hid hs; clear hs))
    | (go_at_call 21; ((with_reducible refine (r_awake.go HS.out).mono ?_); rintro e w' ⟨rfl, hs⟩; replace HS := Lib.hid hs; clear hs)))
  go_ret
  exact ⟨rfl, HS.out⟩

theorem Days_walk (y m d : Int) (hm : I64 m) : Ret 3 #[.int .i64 y, .int .i64 m, .int .i64 d] (.bool true) := by
  obtain ⟨x, e, h1, g1⟩ : ∃ x e : Int, Ret 15 #[.int .i64 y, .int .i64 m, .int .i64 d] (.tuple #[.int .i64 x, .int .i64 e]) ∧ Pure 16 #[.int .i64 y, .int .i64 m, .int .i64 d] (.tuple #[.int .i64 x, .int .i64 e]) := by
    rcases Bool.eq_false_or_eq_true (Cal.dateB y m d) with h | h
    · exact ⟨_, _, r_day_yes y m d h, fun w => refDay_yes y m d h w⟩
    · exact ⟨_, _, r_day_no y m d hm h, fun w => refDay_no y m d h w⟩
  have h2 := r_leap y
  have g2 : Pure 18 #[.int .i64 y] (.bool (Cal.leapB y)) := fun w => refLeap_any y w
  rcases Cal.leap_cases y with h | h
  · rw [h] at h2 g2
    exact Days_true y m d x e _ h1 g1.ret h2 g2.ret (r_len y m hm) (ref_len y m).ret
  · rw [h] at h2 g2
    exact Days_false y m d x e _ h1 g1.ret h2 g2.ret (r_len y m hm) (ref_len y m).ret

end Go.Proofs.YtmjmpdbkijhkiaaDoor
