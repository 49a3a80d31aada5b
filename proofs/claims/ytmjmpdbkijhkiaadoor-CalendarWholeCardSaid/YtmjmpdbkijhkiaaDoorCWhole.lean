/-
'CalendarWhole', over what the functions answer.
-/
import Derived.Test.YtmjmpdbkijhkiaaDoorCRet
import Derived.Test.YtmjmpdbkijhkiaaDoorCLaid
import Derived.Test.YtmjmpdbkijhkiaaDoorCMath2
namespace Go.Proofs.YtmjmpdbkijhkiaaDoor
open Go.RowKit

set_option maxRecDepth 100000 in
set_option maxHeartbeats 1000000 in
theorem Whole_lty (a b A B N X Y : Int) (_hA : 0 ≤ A) (_hAB : A < B) (_hB : B < 65536) (_hN : 0 ≤ N ∧ N ≤ 2153) (_hX : A ≤ X ∧ X ≤ B) (_hY : B < Y)
    (P1 : Ret 27 #[.int .i64 a, .int .i64 65536] (.int .i64 A))
    (P2 : Ret 27 #[.int .i64 b, .int .i64 65536] (.int .i64 B))
    (H1 : Ret 33 #[.int .i64 A, .int .i64 B] (.tuple #[.int .i64 N, .int .i64 0]))
    (H2 : Ret 33 #[.int .i64 B, .int .i64 A] (.tuple #[.int .i64 (-N), .int .i64 0]))
    (H3 : Ret 32 #[.int .i64 A, .int .i64 N] (.tuple #[.int .i64 X, .int .i64 0]))
    (H4 : Ret 32 #[.int .i64 A, .int .i64 (N + 1)] (.tuple #[.int .i64 Y, .int .i64 0]))
    (H5 : Ret 34 #[.int .i64 A, .int .i64 B] (.tuple #[.int .i64 (N / 12), .int .i64 0])) :
    Ret 11 #[.int .i64 a, .int .i64 b] (.bool true) := by
  intro w0 w hS
  have HS := Lib.hid hS
  clear hS
  go_enter Tryd.func11, Tryd.ntmps11
  go_wp2_with (first
    | (go_at_call 21; ((with_reducible refine (r_awake.go HS.out).mono ?_); rintro e w' ⟨rfl, hs⟩; replace HS := Lib.hid hs; clear hs))
    | (go_at_call 27; ((with_reducible refine (P1.go HS.out).mono ?_); rintro e w' ⟨rfl, hs⟩; replace HS := Lib.hid hs; clear hs))
    | (go_at_call 27; ((with_reducible refine (P2.go HS.out).mono ?_); rintro e w' ⟨rfl, hs⟩; replace HS := Lib.hid hs; clear hs))
    | (go_at_call 33; ((with_reducible refine (H1.go HS.out).mono ?_); rintro e w' ⟨rfl, hs⟩; replace HS := Lib.hid hs; clear hs))
    | (go_at_call 33; ((with_reducible refine (H2.go HS.out).mono ?_); rintro e w' ⟨rfl, hs⟩; replace HS := Lib.hid hs; clear hs))
    | (go_at_call 32; ((with_reducible refine (H3.go HS.out).mono ?_); rintro e w' ⟨rfl, hs⟩; replace HS := Lib.hid hs; clear hs))
    | (go_at_call 32; ((with_reducible refine (H4.go HS.out).mono ?_); rintro e w' ⟨rfl, hs⟩; replace HS := Lib.hid hs; clear hs))
    | (go_at_call 34; ((with_reducible refine (H5.go HS.out).mono ?_); rintro e w' ⟨rfl, hs⟩; replace HS := Lib.hid hs; clear hs)))
  go_ret
  exact ⟨rfl, HS.out⟩

set_option maxRecDepth 100000 in
set_option maxHeartbeats 1000000 in
theorem Whole_gty (a b A B N X Y : Int) (_hA : 0 ≤ A) (_hAB : A < B) (_hB : B < 65536) (_hN : 0 ≤ N ∧ N ≤ 2153) (_hX : A ≤ X ∧ X ≤ B) (_hY : B < Y)
    (P1 : Ret 27 #[.int .i64 a, .int .i64 65536] (.int .i64 B))
    (P2 : Ret 27 #[.int .i64 b, .int .i64 65536] (.int .i64 A))
    (H1 : Ret 33 #[.int .i64 A, .int .i64 B] (.tuple #[.int .i64 N, .int .i64 0]))
    (H2 : Ret 33 #[.int .i64 B, .int .i64 A] (.tuple #[.int .i64 (-N), .int .i64 0]))
    (H3 : Ret 32 #[.int .i64 A, .int .i64 N] (.tuple #[.int .i64 X, .int .i64 0]))
    (H4 : Ret 32 #[.int .i64 A, .int .i64 (N + 1)] (.tuple #[.int .i64 Y, .int .i64 0]))
    (H5 : Ret 34 #[.int .i64 A, .int .i64 B] (.tuple #[.int .i64 (N / 12), .int .i64 0])) :
    Ret 11 #[.int .i64 a, .int .i64 b] (.bool true) := by
  intro w0 w hS
  have HS := Lib.hid hS
  clear hS
  go_enter Tryd.func11, Tryd.ntmps11
  go_wp2_with (first
    | (go_at_call 21; ((with_reducible refine (r_awake.go HS.out).mono ?_); rintro e w' ⟨rfl, hs⟩; replace HS := Lib.hid hs; clear hs))
    | (go_at_call 27; ((with_reducible refine (P1.go HS.out).mono ?_); rintro e w' ⟨rfl, hs⟩; replace HS := Lib.hid hs; clear hs))
    | (go_at_call 27; ((with_reducible refine (P2.go HS.out).mono ?_); rintro e w' ⟨rfl, hs⟩; replace HS := Lib.hid hs; clear hs))
    | (go_at_call 33; ((with_reducible refine (H1.go HS.out).mono ?_); rintro e w' ⟨rfl, hs⟩; replace HS := Lib.hid hs; clear hs))
    | (go_at_call 33; ((with_reducible refine (H2.go HS.out).mono ?_); rintro e w' ⟨rfl, hs⟩; replace HS := Lib.hid hs; clear hs))
    | (go_at_call 32; ((with_reducible refine (H3.go HS.out).mono ?_); rintro e w' ⟨rfl, hs⟩; replace HS := Lib.hid hs; clear hs))
    | (go_at_call 32; ((with_reducible refine (H4.go HS.out).mono ?_); rintro e w' ⟨rfl, hs⟩; replace HS := Lib.hid hs; clear hs))
    | (go_at_call 34; ((with_reducible refine (H5.go HS.out).mono ?_); rintro e w' ⟨rfl, hs⟩; replace HS := Lib.hid hs; clear hs)))
  go_ret
  exact ⟨rfl, HS.out⟩

set_option maxRecDepth 100000 in
set_option maxHeartbeats 1000000 in
theorem Whole_eqy (a b A Y : Int) (_hA : 0 ≤ A ∧ A < 65536) (_hY : A < Y)
    (P1 : Ret 27 #[.int .i64 a, .int .i64 65536] (.int .i64 A))
    (P2 : Ret 27 #[.int .i64 b, .int .i64 65536] (.int .i64 A))
    (H1 : Ret 33 #[.int .i64 A, .int .i64 A] (.tuple #[.int .i64 0, .int .i64 0]))
    (H3 : Ret 32 #[.int .i64 A, .int .i64 0] (.tuple #[.int .i64 A, .int .i64 0]))
    (H4 : Ret 32 #[.int .i64 A, .int .i64 1] (.tuple #[.int .i64 Y, .int .i64 0]))
    (H5 : Ret 34 #[.int .i64 A, .int .i64 A] (.tuple #[.int .i64 0, .int .i64 0])) :
    Ret 11 #[.int .i64 a, .int .i64 b] (.bool true) := by
  intro w0 w hS
  have HS := Lib.hid hS
  clear hS
  go_enter Tryd.func11, Tryd.ntmps11
  go_wp2_with (first
    | (go_at_call 21; ((with_reducible refine (r_awake.go HS.out).mono ?_); rintro e w' ⟨rfl, hs⟩; replace HS := Lib.hid hs; clear hs))
    | (go_at_call 27; ((with_reducible refine (P1.go HS.out).mono ?_); rintro e w' ⟨rfl, hs⟩; replace HS := Lib.hid hs; clear hs))
    | (go_at_call 27; ((with_reducible refine (P2.go HS.out).mono ?_); rintro e w' ⟨rfl, hs⟩; replace HS := Lib.hid hs; clear hs))
    | (go_at_call 33; ((with_reducible refine (H1.go HS.out).mono ?_); rintro e w' ⟨rfl, hs⟩; replace HS := Lib.hid hs; clear hs))
    | (go_at_call 32; ((with_reducible refine (H3.go HS.out).mono ?_); rintro e w' ⟨rfl, hs⟩; replace HS := Lib.hid hs; clear hs))
    | (go_at_call 32; ((with_reducible refine (H4.go HS.out).mono ?_); rintro e w' ⟨rfl, hs⟩; replace HS := Lib.hid hs; clear hs))
    | (go_at_call 34; ((with_reducible refine (H5.go HS.out).mono ?_); rintro e w' ⟨rfl, hs⟩; replace HS := Lib.hid hs; clear hs)))
  go_ret
  exact ⟨rfl, HS.out⟩

set_option maxRecDepth 100000 in
set_option maxHeartbeats 1000000 in
theorem Whole_ltn (a b A B N X : Int) (_hA : 0 ≤ A) (_hAB : A < B) (_hB : B < 65536) (_hN : 0 ≤ N ∧ N ≤ 2153) (_hX : A ≤ X ∧ X ≤ B)
    (P1 : Ret 27 #[.int .i64 a, .int .i64 65536] (.int .i64 A))
    (P2 : Ret 27 #[.int .i64 b, .int .i64 65536] (.int .i64 B))
    (H1 : Ret 33 #[.int .i64 A, .int .i64 B] (.tuple #[.int .i64 N, .int .i64 0]))
    (H2 : Ret 33 #[.int .i64 B, .int .i64 A] (.tuple #[.int .i64 (-N), .int .i64 0]))
    (H3 : Ret 32 #[.int .i64 A, .int .i64 N] (.tuple #[.int .i64 X, .int .i64 0]))
    (H4 : Ret 32 #[.int .i64 A, .int .i64 (N + 1)] (.tuple #[.int .i64 0, .int .i64 30]))
    (H5 : Ret 34 #[.int .i64 A, .int .i64 B] (.tuple #[.int .i64 (N / 12), .int .i64 0])) :
    Ret 11 #[.int .i64 a, .int .i64 b] (.bool true) := by
  intro w0 w hS
  have HS := Lib.hid hS
  clear hS
  go_enter Tryd.func11, Tryd.ntmps11
  go_wp2_with (first
    | (go_at_call 21; ((with_reducible refine (r_awake.go HS.out).mono ?_); rintro e w' ⟨rfl, hs⟩; replace HS := Lib.hid hs; clear hs))
    | (go_at_call 27; ((with_reducible refine (P1.go HS.out).mono ?_); rintro e w' ⟨rfl, hs⟩; replace HS := Lib.hid hs; clear hs))
    | (go_at_call 27; ((with_reducible refine (P2.go HS.out).mono ?_); rintro e w' ⟨rfl, hs⟩; replace HS := Lib.hid hs; clear hs))
    | (go_at_call 33; ((with_reducible refine (H1.go HS.out).mono ?_); rintro e w' ⟨rfl, hs⟩; replace HS := Lib.hid hs; clear hs))
    | (go_at_call 33; ((with_reducible refine (H2.go HS.out).mono ?_); rintro e w' ⟨rfl, hs⟩; replace HS := Lib.hid hs; clear hs))
    | (go_at_call 32; ((with_reducible refine (H3.go HS.out).mono ?_); rintro e w' ⟨rfl, hs⟩; replace HS := Lib.hid hs; clear hs))
    | (go_at_call 32; ((with_reducible refine (H4.go HS.out).mono ?_); rintro e w' ⟨rfl, hs⟩; replace HS := Lib.hid hs; clear hs))
    | (go_at_call 34; ((with_reducible refine (H5.go HS.out).mono ?_); rintro e w' ⟨rfl, hs⟩; replace HS := Lib.hid hs; clear hs)))
  go_ret
  exact ⟨rfl, HS.out⟩

set_option maxRecDepth 100000 in
set_option maxHeartbeats 1000000 in
theorem Whole_gtn (a b A B N X : Int) (_hA : 0 ≤ A) (_hAB : A < B) (_hB : B < 65536) (_hN : 0 ≤ N ∧ N ≤ 2153) (_hX : A ≤ X ∧ X ≤ B)
    (P1 : Ret 27 #[.int .i64 a, .int .i64 65536] (.int .i64 B))
    (P2 : Ret 27 #[.int .i64 b, .int .i64 65536] (.int .i64 A))
    (H1 : Ret 33 #[.int .i64 A, .int .i64 B] (.tuple #[.int .i64 N, .int .i64 0]))
    (H2 : Ret 33 #[.int .i64 B, .int .i64 A] (.tuple #[.int .i64 (-N), .int .i64 0]))
    (H3 : Ret 32 #[.int .i64 A, .int .i64 N] (.tuple #[.int .i64 X, .int .i64 0]))
    (H4 : Ret 32 #[.int .i64 A, .int .i64 (N + 1)] (.tuple #[.int .i64 0, .int .i64 30]))
    (H5 : Ret 34 #[.int .i64 A, .int .i64 B] (.tuple #[.int .i64 (N / 12), .int .i64 0])) :
    Ret 11 #[.int .i64 a, .int .i64 b] (.bool true) := by
  intro w0 w hS
  have HS := Lib.hid hS
  clear hS
  go_enter Tryd.func11, Tryd.ntmps11
  go_wp2_with (first
    | (go_at_call 21; ((with_reducible refine (r_awake.go HS.out).mono ?_); rintro e w' ⟨rfl, hs⟩; replace HS := Lib.hid hs; clear hs))
    | (go_at_call 27; ((with_reducible refine (P1.go HS.out).mono ?_); rintro e w' ⟨rfl, hs⟩; replace HS := Lib.hid hs; clear hs))
    | (go_at_call 27; ((with_reducible refine (P2.go HS.out).mono ?_); rintro e w' ⟨rfl, hs⟩; replace HS := Lib.hid hs; clear hs))
    | (go_at_call 33; ((with_reducible refine (H1.go HS.out).mono ?_); rintro e w' ⟨rfl, hs⟩; replace HS := Lib.hid hs; clear hs))
    | (go_at_call 33; ((with_reducible refine (H2.go HS.out).mono ?_); rintro e w' ⟨rfl, hs⟩; replace HS := Lib.hid hs; clear hs))
    | (go_at_call 32; ((with_reducible refine (H3.go HS.out).mono ?_); rintro e w' ⟨rfl, hs⟩; replace HS := Lib.hid hs; clear hs))
    | (go_at_call 32; ((with_reducible refine (H4.go HS.out).mono ?_); rintro e w' ⟨rfl, hs⟩; replace HS := Lib.hid hs; clear hs))
    | (go_at_call 34; ((with_reducible refine (H5.go HS.out).mono ?_); rintro e w' ⟨rfl, hs⟩; replace HS := Lib.hid hs; clear hs)))
  go_ret
  exact ⟨rfl, HS.out⟩

set_option maxRecDepth 100000 in
set_option maxHeartbeats 1000000 in
theorem Whole_eqn (a b A : Int) (_hA : 0 ≤ A ∧ A < 65536)
    (P1 : Ret 27 #[.int .i64 a, .int .i64 65536] (.int .i64 A))
    (P2 : Ret 27 #[.int .i64 b, .int .i64 65536] (.int .i64 A))
    (H1 : Ret 33 #[.int .i64 A, .int .i64 A] (.tuple #[.int .i64 0, .int .i64 0]))
    (H3 : Ret 32 #[.int .i64 A, .int .i64 0] (.tuple #[.int .i64 A, .int .i64 0]))
    (H4 : Ret 32 #[.int .i64 A, .int .i64 1] (.tuple #[.int .i64 0, .int .i64 30]))
    (H5 : Ret 34 #[.int .i64 A, .int .i64 A] (.tuple #[.int .i64 0, .int .i64 0])) :
    Ret 11 #[.int .i64 a, .int .i64 b] (.bool true) := by
  intro w0 w hS
  have HS := Lib.hid hS
  clear hS
  go_enter Tryd.func11, Tryd.ntmps11
  go_wp2_with (first
    | (go_at_call 21; ((with_reducible refine (r_awake.go HS.out).mono ?_); rintro e w' ⟨rfl, hs⟩; replace HS := Lib.hid hs; clear hs))
    | (go_at_call 27; ((with_reducible refine (P1.go HS.out).mono ?_); rintro e w' ⟨rfl, hs⟩; replace HS := Lib.hid hs; clear hs))
    | (go_at_call 27; ((with_reducible refine (P2.go HS.out).mono ?_); rintro e w' ⟨rfl, hs⟩; replace HS := Lib.hid hs; clear hs))
    | (go_at_call 33; ((with_reducible refine (H1.go HS.out).mono ?_); rintro e w' ⟨rfl, hs⟩; replace HS := Lib.hid hs; clear hs))
    | (go_at_call 32; ((with_reducible refine (H3.go HS.out).mono ?_); rintro e w' ⟨rfl, hs⟩; replace HS := Lib.hid hs; clear hs))
    | (go_at_call 32; ((with_reducible refine (H4.go HS.out).mono ?_); rintro e w' ⟨rfl, hs⟩; replace HS := Lib.hid hs; clear hs))
    | (go_at_call 34; ((with_reducible refine (H5.go HS.out).mono ?_); rintro e w' ⟨rfl, hs⟩; replace HS := Lib.hid hs; clear hs)))
  go_ret
  exact ⟨rfl, HS.out⟩

theorem Whole_walk (a b : Int) : Ret 11 #[.int .i64 a, .int .i64 b] (.bool true) := by
  have pa := r_pick a 65536 (by omega) (by omega)
  have pb := r_pick b 65536 (by omega) (by omega)
  have ha : 0 ≤ a % 65536 ∧ a % 65536 < 65536 := by omega
  have hb : 0 ≤ b % 65536 ∧ b % 65536 < 65536 := by omega
  generalize a % 65536 = A at *
  generalize b % 65536 = B at *
  rcases Int.lt_trichotomy A B with h | h | h
  · obtain ⟨w1, w2, w3, w4, w5, w6⟩ := Cal.whole_spec ha.1 (show A ≤ B by omega) hb.2
    have h1 := r_btw_le A B ha.1 (by omega) hb.2
    have h2 := r_btw_gt B A ha.1 h hb.2
    have h3 := r_add_yes A _ ha.1 ha.2 w3
    have h5 := r_age_yes A B ha.1 (by omega) hb.2
    rcases Bool.eq_false_or_eq_true (Cal.laterB A (Cal.whole A B + 1)) with hl | hl
    · exact Whole_lty a b A B _ _ _ ha.1 h hb.2 ⟨w1, w2⟩ ⟨w5, w4⟩ (w6 hl) pa pb h1 h2 h3 (r_add_yes A _ ha.1 ha.2 hl) h5
    · exact Whole_ltn a b A B _ _ ha.1 h hb.2 ⟨w1, w2⟩ ⟨w5, w4⟩ pa pb h1 h2 h3 (r_add_err A _ ha.1 ha.2 hl) h5
  · subst h
    obtain ⟨w1, w2, w3, w4, w5, w6⟩ := Cal.whole_spec ha.1 (Int.le_refl A) ha.2
    have h1 := r_btw_le A A ha.1 (Int.le_refl _) ha.2
    have h5 := r_age_yes A A ha.1 (Int.le_refl _) ha.2
    have h3 := r_add_yes A _ ha.1 ha.2 w3
    rw [Cal.whole_self ha.1 ha.2] at h1 h3 h5 w6
    rw [Cal.laterN_zero ha.1 ha.2] at h3
    rw [show (0 : Int) + 1 = 1 from rfl] at w6
    rcases Bool.eq_false_or_eq_true (Cal.laterB A 1) with hl | hl
    · exact Whole_eqy a b A _ ha (w6 hl) pa pb h1 h3 (r_add_yes A 1 ha.1 ha.2 hl) h5
    · exact Whole_eqn a b A ha pa pb h1 h3 (r_add_err A 1 ha.1 ha.2 hl) h5
  · obtain ⟨w1, w2, w3, w4, w5, w6⟩ := Cal.whole_spec hb.1 (show B ≤ A by omega) ha.2
    have h1 := r_btw_le B A hb.1 (by omega) ha.2
    have h2 := r_btw_gt A B hb.1 h ha.2
    have h3 := r_add_yes B _ hb.1 hb.2 w3
    have h5 := r_age_yes B A hb.1 (by omega) ha.2
    rcases Bool.eq_false_or_eq_true (Cal.laterB B (Cal.whole B A + 1)) with hl | hl
    · exact Whole_gty a b B A _ _ _ hb.1 h ha.2 ⟨w1, w2⟩ ⟨w5, w4⟩ (w6 hl) pa pb h1 h2 h3 (r_add_yes B _ hb.1 hb.2 hl) h5
    · exact Whole_gtn a b B A _ _ hb.1 h ha.2 ⟨w1, w2⟩ ⟨w5, w4⟩ pa pb h1 h2 h3 (r_add_err B _ hb.1 hb.2 hl) h5

end Go.Proofs.YtmjmpdbkijhkiaaDoor
