/-
'CalendarYears': 400 years, year by year and month by month.
-/
import Derived.Test.YtmjmpdbkijhkiaaDoorCRet
import Derived.Test.YtmjmpdbkijhkiaaDoorCLaid
namespace Go.Proofs.YtmjmpdbkijhkiaaDoor
open Go.RowKit

theorem cum_14 (y : Int) (h : Cal.leapB y = true) : Cal.cum y 14 = 366 := by unfold Cal.cum; rw [h]; decide
theorem cum_14' (y : Int) (h : Cal.leapB y = false) : Cal.cum y 14 = 365 := by unfold Cal.cum; rw [h]; decide

set_option maxRecDepth 100000 in
set_option maxHeartbeats 2000000 in
theorem Years_G (x G : Int) (hG : 0 ≤ G ∧ G ≤ 200000) (HP : Ret 27 #[.int .i64 x, .int .i64 200001] (.int .i64 G)) : Ret 9 #[.int .i64 x] (.bool true) := by
  intro w0 w hS
  have HS := Lib.hid hS
  clear hS
  go_enter Tryd.func9, Tryd.ntmps9
  go_wp2_with (first
    | (go_at_call 21; ((with_reducible refine (r_awake.go HS.out).mono ?_); rintro e w' ⟨rfl, hs⟩; replace HS := Lib.hid hs; clear hs))
    | (go_at_call 27; refine (HP.go HS.out).mono ?_; rintro e w1 ⟨rfl, hs⟩; have HS1 := Lib.hid hs; clear hs))
  go_loop [3, 4] (fun v3 v4 => ∃ y : Int, G - 100000 ≤ y ∧ y ≤ G - 100000 + 400 ∧ v4 = .int .i64 y ∧ v3 = .int .i64 (Cal.lps y - Cal.lps (G - 100000))) (fun _ v4 => (G - 100000 + 400 - intOf v4).toNat)
  case atStart => exact ⟨G - 100000, by omega, by omega, rfl, by congr 1; omega⟩
  case round =>
    obtain ⟨y, hy1, hy2, rfl, rfl⟩ := hrel
    have hlm := Cal.lps_mono (G - 100000) (y - (G - 100000)).toNat
    rw [show G - 100000 + ((y - (G - 100000)).toNat : Int) = y by omega] at hlm
    have hlm2 : 0 ≤ Cal.lps y - Cal.lps (G - 100000) ∧ Cal.lps y - Cal.lps (G - 100000) ≤ 400 := by omega
    clear hlm
    obtain ⟨L, hL⟩ : ∃ L, L = Cal.lps y - Cal.lps (G - 100000) := ⟨_, rfl⟩
    rw [← hL] at hlm2 ⊢
    by_cases hlt : y < G - 100000 + 400
    · have HN := Lib.hid (Cal.lps_succ y)
      have H4 := Lib.hid (Cal.leap_400 y)
      have hL' := Lib.hid hL
      clear hL
      rcases Cal.leap_cases y with hl | hl
      · have HL := Lib.hid hl
        have HC := Lib.hid (cum_14 y hl)
        have ht : (y.tmod 4 != 0) = false := by rw [tmn]; simp [Cal.leap_4 hl]
        clear hl
        go_wp2
        go_loop [5, 6] (fun v5 v6 => ∃ m : Int, 0 ≤ m ∧ m ≤ 14 ∧ v6 = .int .i64 m ∧ v5 = .int .i64 (Cal.cum y m)) (fun _ v6 => (14 - intOf v6).toNat)
        case atStart => exact ⟨0, by omega, by omega, rfl, by unfold Cal.cum; rfl⟩
        case round =>
          obtain ⟨m, hm0, hm1, rfl, rfl⟩ := hrel
          by_cases hm : m < 14
          · have hcb := Cal.cum_bd y m
            have hlb := Cal.len_bd y m
            have HCS := Lib.hid (Cal.cum_succ' y m hm0 (by omega))
            go_wp2_with (go_at_call 19; refine (Len_any y m (by omega) _ HS1.out.at).mono ?_; rintro e w' ⟨rfl, rfl⟩)
            go_round
            case rel => exact ⟨m + 1, by omega, by omega, rfl, by rw [HCS.out]⟩
            case measure => simp [intOf]; omega
          · obtain rfl : m = 14 := by omega
            rw [HC.out]
            go_wp2_with (first
              | (go_at_call 17; ((with_reducible refine (Leap_any y _).mono ?_); rintro e w' ⟨rfl, rfl⟩; rw [HL.out]))
              | (go_at_call 17; ((with_reducible refine (Leap_any (y + 400) _).mono ?_); rintro e w' ⟨rfl, rfl⟩; rw [H4.out, HL.out])))
            go_round
            case rel => exact ⟨y + 1, by omega, by omega, rfl, by have h := HN.out; rw [HL.out, if_pos rfl] at h; have h2 := hL'.out; congr 1; omega⟩
            case measure => simp [intOf]; omega
      · have HL := Lib.hid hl
        have HC := Lib.hid (cum_14' y hl)
        clear hl
        go_wp2
        go_loop [5, 6] (fun v5 v6 => ∃ m : Int, 0 ≤ m ∧ m ≤ 14 ∧ v6 = .int .i64 m ∧ v5 = .int .i64 (Cal.cum y m)) (fun _ v6 => (14 - intOf v6).toNat)
        case atStart => exact ⟨0, by omega, by omega, rfl, by unfold Cal.cum; rfl⟩
        case round =>
          obtain ⟨m, hm0, hm1, rfl, rfl⟩ := hrel
          by_cases hm : m < 14
          · have hcb := Cal.cum_bd y m
            have hlb := Cal.len_bd y m
            have HCS := Lib.hid (Cal.cum_succ' y m hm0 (by omega))
            go_wp2_with (go_at_call 19; refine (Len_any y m (by omega) _ HS1.out.at).mono ?_; rintro e w' ⟨rfl, rfl⟩)
            go_round
            case rel => exact ⟨m + 1, by omega, by omega, rfl, by rw [HCS.out]⟩
            case measure => simp [intOf]; omega
          · obtain rfl : m = 14 := by omega
            rw [HC.out]
            go_wp2_with (first
              | (go_at_call 17; ((with_reducible refine (Leap_any y _).mono ?_); rintro e w' ⟨rfl, rfl⟩; rw [HL.out]))
              | (go_at_call 17; ((with_reducible refine (Leap_any (y + 400) _).mono ?_); rintro e w' ⟨rfl, rfl⟩; rw [H4.out, HL.out])))
            go_round
            case rel => exact ⟨y + 1, by omega, by omega, rfl, by have h := HN.out; rw [HL.out, if_neg (by decide)] at h; have h2 := hL'.out; congr 1; omega⟩
            case measure => simp [intOf]; omega
    · obtain rfl : y = G - 100000 + 400 := by omega
      have h97 := Cal.lps_400 (G - 100000)
      obtain rfl : L = 97 := by omega
      clear hL h97
      go_wp2
      go_ret
      exact ⟨rfl, HS1.out⟩

theorem Years_walk (x : Int) : Ret 9 #[.int .i64 x] (.bool true) :=
  Years_G x (x % 200001) (by omega) (r_pick x 200001 (by omega) (by omega))

end Go.Proofs.YtmjmpdbkijhkiaaDoor
