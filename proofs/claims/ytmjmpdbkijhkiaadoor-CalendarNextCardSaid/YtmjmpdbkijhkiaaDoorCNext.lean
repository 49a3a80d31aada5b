/-
'CalendarNext', over what the functions answer.
-/
import Derived.Test.YtmjmpdbkijhkiaaDoorCRet
import Derived.Test.YtmjmpdbkijhkiaaDoorCLaid
namespace Go.Proofs.YtmjmpdbkijhkiaaDoor
open Go.RowKit

set_option maxRecDepth 100000 in
set_option maxHeartbeats 1000000 in
theorem Next_lo (day : Int) (_hd : day < 0)
    (H1 : Ret 28 #[.int .i64 day] (.tuple #[.int .i64 0, .int .i64 0, .int .i64 0, .int .i64 2]))
    (H2 : Ret 29 #[.int .i64 day] (.tuple #[.int .i64 0, .int .i64 2]))
    (H3 : Ret 30 #[.int .i64 day] (.tuple #[.int .i64 0, .int .i64 2])) :
    Ret 8 #[.int .i64 day] (.bool true) := by
  intro w0 w hS
  have HS := Lib.hid hS
  clear hS
  go_enter Tryd.func8, Tryd.ntmps8
  go_wp2_with (first
    | (go_at_call 21; ((with_reducible refine (r_awake.go HS.out).mono ?_); rintro e w' ⟨rfl, hs⟩; replace HS := Lib.hid hs; clear hs))
    | (go_at_call 28; ((with_reducible refine (H1.go HS.out).mono ?_); rintro e w' ⟨rfl, hs⟩; replace HS := Lib.hid hs; clear hs))
    | (go_at_call 29; ((with_reducible refine (H2.go HS.out).mono ?_); rintro e w' ⟨rfl, hs⟩; replace HS := Lib.hid hs; clear hs))
    | (go_at_call 30; ((with_reducible refine (H3.go HS.out).mono ?_); rintro e w' ⟨rfl, hs⟩; replace HS := Lib.hid hs; clear hs)))
  go_ret
  exact ⟨rfl, HS.out⟩

set_option maxRecDepth 100000 in
set_option maxHeartbeats 1000000 in
theorem Next_hi (day : Int) (_hd : 65536 ≤ day)
    (H1 : Ret 28 #[.int .i64 day] (.tuple #[.int .i64 0, .int .i64 0, .int .i64 0, .int .i64 2]))
    (H2 : Ret 29 #[.int .i64 day] (.tuple #[.int .i64 0, .int .i64 2]))
    (H3 : Ret 30 #[.int .i64 day] (.tuple #[.int .i64 0, .int .i64 2])) :
    Ret 8 #[.int .i64 day] (.bool true) := by
  intro w0 w hS
  have HS := Lib.hid hS
  clear hS
  go_enter Tryd.func8, Tryd.ntmps8
  go_wp2_with (first
    | (go_at_call 21; ((with_reducible refine (r_awake.go HS.out).mono ?_); rintro e w' ⟨rfl, hs⟩; replace HS := Lib.hid hs; clear hs))
    | (go_at_call 28; ((with_reducible refine (H1.go HS.out).mono ?_); rintro e w' ⟨rfl, hs⟩; replace HS := Lib.hid hs; clear hs))
    | (go_at_call 29; ((with_reducible refine (H2.go HS.out).mono ?_); rintro e w' ⟨rfl, hs⟩; replace HS := Lib.hid hs; clear hs))
    | (go_at_call 30; ((with_reducible refine (H3.go HS.out).mono ?_); rintro e w' ⟨rfl, hs⟩; replace HS := Lib.hid hs; clear hs)))
  go_ret
  exact ⟨rfl, HS.out⟩

set_option maxRecDepth 100000 in
set_option maxHeartbeats 1000000 in
theorem Next_zero 
    (H1 : Ret 28 #[.int .i64 0] (.tuple #[.int .i64 1900, .int .i64 1, .int .i64 1, .int .i64 0]))
    (H2 : Ret 29 #[.int .i64 0] (.tuple #[.int .i64 1, .int .i64 0]))
    (H3 : Ret 30 #[.int .i64 0] (.tuple #[.int .i64 0, .int .i64 0]))
    (H4 : Ret 15 #[.int .i64 1900, .int .i64 1, .int .i64 1] (.tuple #[.int .i64 0, .int .i64 0]))
    (H5 : Ret 31 #[.int .i64 0] (.tuple #[.int .i64 0, .int .i64 0]))
    (H6 : Ret 19 #[.int .i64 1900, .int .i64 1] (.int .i64 31)) :
    Ret 8 #[.int .i64 0] (.bool true) := by
  intro w0 w hS
  have HS := Lib.hid hS
  clear hS
  go_enter Tryd.func8, Tryd.ntmps8
  go_wp2_with (first
    | (go_at_call 21; ((with_reducible refine (r_awake.go HS.out).mono ?_); rintro e w' ⟨rfl, hs⟩; replace HS := Lib.hid hs; clear hs))
    | (go_at_call 28; ((with_reducible refine (H1.go HS.out).mono ?_); rintro e w' ⟨rfl, hs⟩; replace HS := Lib.hid hs; clear hs))
    | (go_at_call 29; ((with_reducible refine (H2.go HS.out).mono ?_); rintro e w' ⟨rfl, hs⟩; replace HS := Lib.hid hs; clear hs))
    | (go_at_call 30; ((with_reducible refine (H3.go HS.out).mono ?_); rintro e w' ⟨rfl, hs⟩; replace HS := Lib.hid hs; clear hs))
    | (go_at_call 15; ((with_reducible refine (H4.go HS.out).mono ?_); rintro e w' ⟨rfl, hs⟩; replace HS := Lib.hid hs; clear hs))
    | (go_at_call 31; ((with_reducible refine (H5.go HS.out).mono ?_); rintro e w' ⟨rfl, hs⟩; replace HS := Lib.hid hs; clear hs))
    | (go_at_call 19; ((with_reducible refine (H6.go HS.out).mono ?_); rintro e w' ⟨rfl, hs⟩; replace HS := Lib.hid hs; clear hs)))
  go_ret
  exact ⟨rfl, HS.out⟩

set_option maxRecDepth 100000 in
set_option maxHeartbeats 1000000 in
theorem Next_day (day Y M D N L : Int) (_h0 : 0 < day) (_h1 : day < 65536) (_hY : 1900 ≤ Y ∧ Y ≤ 2079) (_hN : 0 ≤ N ∧ N ≤ 2153) (_hD : 1 < D ∧ D ≤ L ∧ L ≤ 31) (_hM : 1 ≤ M ∧ M ≤ 12)
    (H1 : Ret 28 #[.int .i64 day] (.tuple #[.int .i64 Y, .int .i64 M, .int .i64 D, .int .i64 0]))
    (H2 : Ret 29 #[.int .i64 day] (.tuple #[.int .i64 (day % 7 + 1), .int .i64 0]))
    (H3 : Ret 30 #[.int .i64 day] (.tuple #[.int .i64 N, .int .i64 0]))
    (H4 : Ret 15 #[.int .i64 Y, .int .i64 M, .int .i64 D] (.tuple #[.int .i64 day, .int .i64 0]))
    (H5 : Ret 31 #[.int .i64 N] (.tuple #[.int .i64 (day - D + 1), .int .i64 0]))
    (H6 : Ret 19 #[.int .i64 Y, .int .i64 M] (.int .i64 L))
    (G1 : Ret 28 #[.int .i64 (day - 1)] (.tuple #[.int .i64 Y, .int .i64 M, .int .i64 (D - 1), .int .i64 0]))
    (G2 : Ret 29 #[.int .i64 (day - 1)] (.tuple #[.int .i64 ((day - 1) % 7 + 1), .int .i64 0]))
    (G3 : Ret 30 #[.int .i64 (day - 1)] (.tuple #[.int .i64 N, .int .i64 0])) :
    Ret 8 #[.int .i64 day] (.bool true) := by
  intro w0 w hS
  have HS := Lib.hid hS
  clear hS
  go_enter Tryd.func8, Tryd.ntmps8
  go_wp2_with (first
    | (go_at_call 21; ((with_reducible refine (r_awake.go HS.out).mono ?_); rintro e w' ⟨rfl, hs⟩; replace HS := Lib.hid hs; clear hs))
    | (go_at_call 28; ((with_reducible refine (H1.go HS.out).mono ?_); rintro e w' ⟨rfl, hs⟩; replace HS := Lib.hid hs; clear hs))
    | (go_at_call 29; ((with_reducible refine (H2.go HS.out).mono ?_); rintro e w' ⟨rfl, hs⟩; replace HS := Lib.hid hs; clear hs))
    | (go_at_call 30; ((with_reducible refine (H3.go HS.out).mono ?_); rintro e w' ⟨rfl, hs⟩; replace HS := Lib.hid hs; clear hs))
    | (go_at_call 15; ((with_reducible refine (H4.go HS.out).mono ?_); rintro e w' ⟨rfl, hs⟩; replace HS := Lib.hid hs; clear hs))
    | (go_at_call 31; ((with_reducible refine (H5.go HS.out).mono ?_); rintro e w' ⟨rfl, hs⟩; replace HS := Lib.hid hs; clear hs))
    | (go_at_call 19; ((with_reducible refine (H6.go HS.out).mono ?_); rintro e w' ⟨rfl, hs⟩; replace HS := Lib.hid hs; clear hs))
    | (go_at_call 28; ((with_reducible refine (G1.go HS.out).mono ?_); rintro e w' ⟨rfl, hs⟩; replace HS := Lib.hid hs; clear hs))
    | (go_at_call 29; ((with_reducible refine (G2.go HS.out).mono ?_); rintro e w' ⟨rfl, hs⟩; replace HS := Lib.hid hs; clear hs))
    | (go_at_call 30; ((with_reducible refine (G3.go HS.out).mono ?_); rintro e w' ⟨rfl, hs⟩; replace HS := Lib.hid hs; clear hs)))
  go_ret
  exact ⟨rfl, HS.out⟩

set_option maxRecDepth 100000 in
set_option maxHeartbeats 1000000 in
theorem Next_month (day Y M N L K : Int) (_h0 : 0 < day) (_h1 : day < 65536) (_hY : 1900 ≤ Y ∧ Y ≤ 2079) (_hN : 0 ≤ N ∧ N ≤ 2153) (_hL : 1 ≤ L ∧ L ≤ 31) (_hM : 1 < M ∧ M ≤ 12)
    (H1 : Ret 28 #[.int .i64 day] (.tuple #[.int .i64 Y, .int .i64 M, .int .i64 1, .int .i64 0]))
    (H2 : Ret 29 #[.int .i64 day] (.tuple #[.int .i64 (day % 7 + 1), .int .i64 0]))
    (H3 : Ret 30 #[.int .i64 day] (.tuple #[.int .i64 N, .int .i64 0]))
    (H4 : Ret 15 #[.int .i64 Y, .int .i64 M, .int .i64 1] (.tuple #[.int .i64 day, .int .i64 0]))
    (H5 : Ret 31 #[.int .i64 N] (.tuple #[.int .i64 (day - 1 + 1), .int .i64 0]))
    (H6 : Ret 19 #[.int .i64 Y, .int .i64 M] (.int .i64 L))
    (G1 : Ret 28 #[.int .i64 (day - 1)] (.tuple #[.int .i64 Y, .int .i64 (M - 1), .int .i64 K, .int .i64 0]))
    (G2 : Ret 29 #[.int .i64 (day - 1)] (.tuple #[.int .i64 ((day - 1) % 7 + 1), .int .i64 0]))
    (G3 : Ret 30 #[.int .i64 (day - 1)] (.tuple #[.int .i64 (N - 1), .int .i64 0]))
    (G4 : Ret 19 #[.int .i64 Y, .int .i64 (M - 1)] (.int .i64 K)) :
    Ret 8 #[.int .i64 day] (.bool true) := by
  intro w0 w hS
  have HS := Lib.hid hS
  clear hS
  go_enter Tryd.func8, Tryd.ntmps8
  go_wp2_with (first
    | (go_at_call 21; ((with_reducible refine (r_awake.go HS.out).mono ?_); rintro e w' ⟨rfl, hs⟩; replace HS := Lib.hid hs; clear hs))
    | (go_at_call 28; ((with_reducible refine (H1.go HS.out).mono ?_); rintro e w' ⟨rfl, hs⟩; replace HS := Lib.hid hs; clear hs))
    | (go_at_call 29; ((with_reducible refine (H2.go HS.out).mono ?_); rintro e w' ⟨rfl, hs⟩; replace HS := Lib.hid hs; clear hs))
    | (go_at_call 30; ((with_reducible refine (H3.go HS.out).mono ?_); rintro e w' ⟨rfl, hs⟩; replace HS := Lib.hid hs; clear hs))
    | (go_at_call 15; ((with_reducible refine (H4.go HS.out).mono ?_); rintro e w' ⟨rfl, hs⟩; replace HS := Lib.hid hs; clear hs))
    | (go_at_call 31; ((with_reducible refine (H5.go HS.out).mono ?_); rintro e w' ⟨rfl, hs⟩; replace HS := Lib.hid hs; clear hs))
    | (go_at_call 19; ((with_reducible refine (H6.go HS.out).mono ?_); rintro e w' ⟨rfl, hs⟩; replace HS := Lib.hid hs; clear hs))
    | (go_at_call 28; ((with_reducible refine (G1.go HS.out).mono ?_); rintro e w' ⟨rfl, hs⟩; replace HS := Lib.hid hs; clear hs))
    | (go_at_call 29; ((with_reducible refine (G2.go HS.out).mono ?_); rintro e w' ⟨rfl, hs⟩; replace HS := Lib.hid hs; clear hs))
    | (go_at_call 30; ((with_reducible refine (G3.go HS.out).mono ?_); rintro e w' ⟨rfl, hs⟩; replace HS := Lib.hid hs; clear hs))
    | (go_at_call 19; ((with_reducible refine (G4.go HS.out).mono ?_); rintro e w' ⟨rfl, hs⟩; replace HS := Lib.hid hs; clear hs)))
  go_ret
  exact ⟨rfl, HS.out⟩

set_option maxRecDepth 100000 in
set_option maxHeartbeats 1000000 in
theorem Next_year (day Y N L : Int) (_h0 : 0 < day) (_h1 : day < 65536) (_hY : 1900 ≤ Y ∧ Y ≤ 2079) (_hN : 0 ≤ N ∧ N ≤ 2153) (_hL : 1 ≤ L ∧ L ≤ 31)
    (H1 : Ret 28 #[.int .i64 day] (.tuple #[.int .i64 Y, .int .i64 1, .int .i64 1, .int .i64 0]))
    (H2 : Ret 29 #[.int .i64 day] (.tuple #[.int .i64 (day % 7 + 1), .int .i64 0]))
    (H3 : Ret 30 #[.int .i64 day] (.tuple #[.int .i64 N, .int .i64 0]))
    (H4 : Ret 15 #[.int .i64 Y, .int .i64 1, .int .i64 1] (.tuple #[.int .i64 day, .int .i64 0]))
    (H5 : Ret 31 #[.int .i64 N] (.tuple #[.int .i64 (day - 1 + 1), .int .i64 0]))
    (H6 : Ret 19 #[.int .i64 Y, .int .i64 1] (.int .i64 L))
    (G1 : Ret 28 #[.int .i64 (day - 1)] (.tuple #[.int .i64 (Y - 1), .int .i64 12, .int .i64 31, .int .i64 0]))
    (G2 : Ret 29 #[.int .i64 (day - 1)] (.tuple #[.int .i64 ((day - 1) % 7 + 1), .int .i64 0]))
    (G3 : Ret 30 #[.int .i64 (day - 1)] (.tuple #[.int .i64 (N - 1), .int .i64 0])) :
    Ret 8 #[.int .i64 day] (.bool true) := by
  intro w0 w hS
  have HS := Lib.hid hS
  clear hS
  go_enter Tryd.func8, Tryd.ntmps8
  go_wp2_with (first
    | (go_at_call 21; ((with_reducible refine (r_awake.go HS.out).mono ?_); rintro e w' ⟨rfl, hs⟩; replace HS := Lib.hid hs; clear hs))
    | (go_at_call 28; ((with_reducible refine (H1.go HS.out).mono ?_); rintro e w' ⟨rfl, hs⟩; replace HS := Lib.hid hs; clear hs))
    | (go_at_call 29; ((with_reducible refine (H2.go HS.out).mono ?_); rintro e w' ⟨rfl, hs⟩; replace HS := Lib.hid hs; clear hs))
    | (go_at_call 30; ((with_reducible refine (H3.go HS.out).mono ?_); rintro e w' ⟨rfl, hs⟩; replace HS := Lib.hid hs; clear hs))
    | (go_at_call 15; ((with_reducible refine (H4.go HS.out).mono ?_); rintro e w' ⟨rfl, hs⟩; replace HS := Lib.hid hs; clear hs))
    | (go_at_call 31; ((with_reducible refine (H5.go HS.out).mono ?_); rintro e w' ⟨rfl, hs⟩; replace HS := Lib.hid hs; clear hs))
    | (go_at_call 19; ((with_reducible refine (H6.go HS.out).mono ?_); rintro e w' ⟨rfl, hs⟩; replace HS := Lib.hid hs; clear hs))
    | (go_at_call 28; ((with_reducible refine (G1.go HS.out).mono ?_); rintro e w' ⟨rfl, hs⟩; replace HS := Lib.hid hs; clear hs))
    | (go_at_call 29; ((with_reducible refine (G2.go HS.out).mono ?_); rintro e w' ⟨rfl, hs⟩; replace HS := Lib.hid hs; clear hs))
    | (go_at_call 30; ((with_reducible refine (G3.go HS.out).mono ?_); rintro e w' ⟨rfl, hs⟩; replace HS := Lib.hid hs; clear hs)))
  go_ret
  exact ⟨rfl, HS.out⟩

theorem mon_0 : Cal.mon 0 = 0 := Cal.mon_uniq (by decide) (by decide) (by decide) (by decide) (by decide)
theorem dom_0 : Cal.dom 0 = 1 := by unfold Cal.dom; rw [mon_0]; decide

theorem r_back (d : Int) (h0 : 0 ≤ d) (h1 : d < 65536) : Ret 15 #[.int .i64 (Cal.yr (Cal.mon d)), .int .i64 (Cal.mo (Cal.mon d)), .int .i64 (Cal.dom d)] (.tuple #[.int .i64 d, .int .i64 0]) := by
  have h := Cal.date_back h0 h1
  have r := r_day_yes _ _ _ h.1
  rwa [h.2] at r

theorem r_firstd (d : Int) (h0 : 0 ≤ d) (h1 : d < 65536) : Ret 31 #[.int .i64 (Cal.mon d)] (.tuple #[.int .i64 (d - Cal.dom d + 1), .int .i64 0]) := by
  obtain ⟨a, b, _, _⟩ := Cal.mon_spec h0 h1
  have r := r_first_yes (Cal.mon d) a (by omega)
  rwa [show Cal.start (Cal.mon d) = d - Cal.dom d + 1 by unfold Cal.dom; omega] at r

theorem Next_walk (day : Int) : Ret 8 #[.int .i64 day] (.bool true) := by
  by_cases hlo : day < 0
  · exact Next_lo day hlo (r_ymd_no day (.inl hlo)) (r_week_no day (.inl hlo)) (r_month_no day (.inl hlo))
  by_cases hhi : 65536 ≤ day
  · exact Next_hi day hhi (r_ymd_no day (.inr hhi)) (r_week_no day (.inr hhi)) (r_month_no day (.inr hhi))
  by_cases hz : day = 0
  · subst hz
    have r1 := r_ymd_yes 0 (by omega) (by omega)
    have r3 := r_month_yes 0 (by omega) (by omega)
    have r4 := r_back 0 (by omega) (by omega)
    have r5 := r_firstd 0 (by omega) (by omega)
    rw [mon_0, dom_0] at r1 r4 r5
    rw [mon_0] at r3
    exact Next_zero r1 (r_week_yes 0 (by omega) (by omega)) r3 r4 r5 (r_len 1900 1 (by omega))
  have h0 : 0 < day := by omega
  have h1 : day < 65536 := by omega
  obtain ⟨a, b, _, _⟩ := Cal.mon_spec (show 0 ≤ day by omega) h1
  have hy := Cal.yr_bd a (show Cal.mon day ≤ 2159 by omega)
  have hm := Cal.mo_bd (Cal.mon day)
  have hd := Cal.dom_bd (show 0 ≤ day by omega) h1
  rw [Cal.mlen_ym] at hd
  have hl := Cal.len_bd (Cal.yr (Cal.mon day)) (Cal.mo (Cal.mon day))
  have r1 := r_ymd_yes day (by omega) h1
  have r2 := r_week_yes day (by omega) h1
  have r3 := r_month_yes day (by omega) h1
  have r4 := r_back day (by omega) h1
  have r5 := r_firstd day (by omega) h1
  have r6 := r_len (Cal.yr (Cal.mon day)) (Cal.mo (Cal.mon day)) (by omega)
  have g1 := r_ymd_yes (day - 1) (by omega) (by omega)
  have g2 := r_week_yes (day - 1) (by omega) (by omega)
  have g3 := r_month_yes (day - 1) (by omega) (by omega)
  by_cases hD : 1 < Cal.dom day
  · have hp := Cal.prev_same (show 0 ≤ day by omega) h1 hD
    rw [hp.1, hp.2] at g1
    rw [hp.1] at g3
    exact Next_day day _ _ _ _ _ h0 h1 hy ⟨a, b⟩ ⟨hD, hd.2.1, hl.2⟩ hm r1 r2 r3 r4 r5 r6 g1 g2 g3
  · have hD1 : Cal.dom day = 1 := by omega
    have hp := Cal.prev_month h0 h1 hD1
    rw [hD1] at r1 r4 r5
    rw [hp.2.1, hp.2.2] at g1
    rw [hp.2.1] at g3
    by_cases hM : 1 < Cal.mo (Cal.mon day)
    · have hq := Cal.mo_prev hM
      rw [Cal.mlen_ym] at g1
      rw [hq.1, hq.2] at g1
      exact Next_month day _ _ _ _ _ h0 h1 hy ⟨a, b⟩ ⟨by omega, hl.2⟩ ⟨hM, hm.2⟩ r1 r2 r3 r4 r5 r6 g1 g2 g3 (r_len _ _ (by omega))
    · have hM1 : Cal.mo (Cal.mon day) = 1 := by omega
      have hq := Cal.mo_first hM1
      rw [Cal.mlen_ym] at g1
      rw [hq.1, hq.2] at g1
      rw [show Cal.len (Cal.yr (Cal.mon day) - 1) 12 = 31 from rfl] at g1
      rw [hM1] at r1 r4 r6 hd hl
      exact Next_year day _ _ _ h0 h1 hy ⟨a, b⟩ ⟨by omega, hl.2⟩ r1 r2 r3 r4 r5 r6 g1 g2 g3

end Go.Proofs.YtmjmpdbkijhkiaaDoor
