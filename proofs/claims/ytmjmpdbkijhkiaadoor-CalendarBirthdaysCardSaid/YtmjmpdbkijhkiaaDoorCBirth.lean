/-
'CalendarBirthdays', over what the functions answer.
-/
import Derived.Test.YtmjmpdbkijhkiaaDoorCRet
import Derived.Test.YtmjmpdbkijhkiaaDoorCLaid
import Derived.Test.YtmjmpdbkijhkiaaDoorCMath2
namespace Go.Proofs.YtmjmpdbkijhkiaaDoor
open Go.RowKit

set_option maxRecDepth 100000 in
set_option maxHeartbeats 1000000 in
theorem Birth_err (a u B : Int) (_hu : 0 ≤ u ∧ u ≤ 255)
    (P1 : Ret 27 #[.int .i64 a, .int .i64 65536] (.int .i64 B))
    (H1 : Ret 32 #[.int .i64 B, .int .i64 (12 * (1 + u % 179))] (.tuple #[.int .i64 0, .int .i64 30])) :
    Ret 12 #[.int .i64 a, .int .u8 u] (.bool true) := by
  intro w0 w hS
  have HS := Lib.hid hS
  clear hS
  go_enter Tryd.func12, Tryd.ntmps12
  go_wp2_with (first
    | (go_at_call 21; ((with_reducible refine (r_awake.go HS.out).mono ?_); rintro e w' ⟨rfl, hs⟩; replace HS := Lib.hid hs; clear hs))
    | (go_at_call 27; ((with_reducible refine (P1.go HS.out).mono ?_); rintro e w' ⟨rfl, hs⟩; replace HS := Lib.hid hs; clear hs))
    | (go_at_call 32; ((with_reducible refine (H1.go HS.out).mono ?_); rintro e w' ⟨rfl, hs⟩; replace HS := Lib.hid hs; clear hs)))
  go_ret
  exact ⟨rfl, HS.out⟩

set_option maxRecDepth 100000 in
set_option maxHeartbeats 1000000 in
theorem Birth_ok (a u B X : Int) (_hu : 0 ≤ u ∧ u ≤ 255) (_hX : 0 ≤ X ∧ X < 65536)
    (P1 : Ret 27 #[.int .i64 a, .int .i64 65536] (.int .i64 B))
    (H1 : Ret 32 #[.int .i64 B, .int .i64 (12 * (1 + u % 179))] (.tuple #[.int .i64 X, .int .i64 0]))
    (H2 : Ret 34 #[.int .i64 B, .int .i64 X] (.tuple #[.int .i64 (1 + u % 179), .int .i64 0]))
    (H3 : Ret 34 #[.int .i64 B, .int .i64 (X - 1)] (.tuple #[.int .i64 (1 + u % 179 - 1), .int .i64 0]))
    (H4 : Ret 34 #[.int .i64 B, .int .i64 B] (.tuple #[.int .i64 0, .int .i64 0]))
    (H5 : Ret 34 #[.int .i64 X, .int .i64 B] (.tuple #[.int .i64 0, .int .i64 2])) :
    Ret 12 #[.int .i64 a, .int .u8 u] (.bool true) := by
  intro w0 w hS
  have HS := Lib.hid hS
  clear hS
  go_enter Tryd.func12, Tryd.ntmps12
  go_wp2_with (first
    | (go_at_call 21; ((with_reducible refine (r_awake.go HS.out).mono ?_); rintro e w' ⟨rfl, hs⟩; replace HS := Lib.hid hs; clear hs))
    | (go_at_call 27; ((with_reducible refine (P1.go HS.out).mono ?_); rintro e w' ⟨rfl, hs⟩; replace HS := Lib.hid hs; clear hs))
    | (go_at_call 32; ((with_reducible refine (H1.go HS.out).mono ?_); rintro e w' ⟨rfl, hs⟩; replace HS := Lib.hid hs; clear hs))
    | (go_at_call 34; ((with_reducible refine (H2.go HS.out).mono ?_); rintro e w' ⟨rfl, hs⟩; replace HS := Lib.hid hs; clear hs))
    | (go_at_call 34; ((with_reducible refine (H3.go HS.out).mono ?_); rintro e w' ⟨rfl, hs⟩; replace HS := Lib.hid hs; clear hs))
    | (go_at_call 34; ((with_reducible refine (H4.go HS.out).mono ?_); rintro e w' ⟨rfl, hs⟩; replace HS := Lib.hid hs; clear hs))
    | (go_at_call 34; ((with_reducible refine (H5.go HS.out).mono ?_); rintro e w' ⟨rfl, hs⟩; replace HS := Lib.hid hs; clear hs)))
  go_ret
  exact ⟨rfl, HS.out⟩

theorem Birth_walk (a u : Int) (hu : 0 ≤ u ∧ u ≤ 255) : Ret 12 #[.int .i64 a, .int .u8 u] (.bool true) := by
  have pa := r_pick a 65536 (by omega) (by omega)
  have ha : 0 ≤ a % 65536 ∧ a % 65536 < 65536 := by omega
  generalize a % 65536 = B at *
  rcases Bool.eq_false_or_eq_true (Cal.laterB B (12 * (1 + u % 179))) with hl | hl
  · have hl' := of_decide_eq_true hl
    obtain ⟨m0, m1, _, _⟩ := Cal.mon_spec ha.1 ha.2
    have lb := Cal.laterN_bd ha.1 ha.2 hl'.1 hl'.2.1
    have w1 := Cal.whole_later ha.1 ha.2 hl
    have w2 := Cal.whole_before ha.1 ha.2 (by omega) hl
    have h1 := r_add_yes B _ ha.1 ha.2 hl
    have h2 := r_age_yes B _ ha.1 (show B ≤ Cal.laterN B (12 * (1 + u % 179)) by omega) hl'.2.2
    have h3 := r_age_yes B _ ha.1 (show B ≤ Cal.laterN B (12 * (1 + u % 179)) - 1 by omega) (by omega)
    have h4 := r_age_yes B B ha.1 (Int.le_refl _) ha.2
    have h5 := r_age_gt _ B ha.1 (show B < Cal.laterN B (12 * (1 + u % 179)) by omega) hl'.2.2
    rw [w1, show 12 * (1 + u % 179) / 12 = 1 + u % 179 by omega] at h2
    rw [w2.2, show (12 * (1 + u % 179) - 1) / 12 = 1 + u % 179 - 1 by omega] at h3
    rw [Cal.whole_self ha.1 ha.2] at h4
    exact Birth_ok a u B _ hu ⟨lb.1, hl'.2.2⟩ pa h1 h2 h3 h4 h5
  · exact Birth_err a u B hu pa (r_add_err B _ ha.1 ha.2 hl)

end Go.Proofs.YtmjmpdbkijhkiaaDoor
