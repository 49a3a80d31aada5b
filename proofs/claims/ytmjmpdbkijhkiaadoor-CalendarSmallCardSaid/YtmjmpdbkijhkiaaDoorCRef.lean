/-
The reference: 'Leap', 'Len', 'Is', 'Day', 'YMD'.
-/
import Derived.Test.YtmjmpdbkijhkiaaDoorCFuns
import Derived.Test.YtmjmpdbkijhkiaaDoorCMath2
namespace Go.Proofs.YtmjmpdbkijhkiaaDoor
open Go.RowKit

theorem refLeap_any (y : Int) (w : World) : Calls Tryd.prog 18 #[.int .i64 y] w fun e w' => e = .returned (.bool (Cal.leapB y)) ∧ w = w' := by
  have e4 := tm (y := y) (k := 4)
  have e1 := tmn (y := y) (k := 100)
  have e0 := tm (y := y) (k := 400)
  by_cases h0 : y % 400 = 0
  · have HL := Lib.hid (Cal.leapB_yes (y := y) ⟨by omega, .inr h0⟩)
    simp only [h0, decide_true] at e0
    clear h0 e1 e4
    go_enter Tryd.func18, Tryd.ntmps18
    go_wp2
    go_ret
    exact ⟨by rw [HL.out]; rfl, rfl⟩
  · by_cases h4 : y % 4 = 0
    · by_cases h1 : y % 100 = 0
      · have HL := Lib.hid (Cal.leapB_no (y := y) (fun h => h.2.elim (fun h => h h1) (fun h => h0 h)))
        simp only [h4, h1, h0, decide_true, decide_false, not_true] at e4 e1 e0
        clear h4 h1 h0
        go_enter Tryd.func18, Tryd.ntmps18
        go_wp2
        go_ret
        exact ⟨by rw [HL.out]; rfl, rfl⟩
      · have HL := Lib.hid (Cal.leapB_yes (y := y) ⟨h4, .inl h1⟩)
        simp only [h4, h1, h0, decide_true, decide_false, not_false_iff] at e4 e1 e0
        clear h4 h1 h0
        go_enter Tryd.func18, Tryd.ntmps18
        go_wp2
        go_ret
        exact ⟨by rw [HL.out]; rfl, rfl⟩
    · have HL := Lib.hid (Cal.leapB_no (y := y) (fun h => h4 h.1))
      simp only [h4, h0, decide_false] at e4 e0
      clear h4 e1 h0
      go_enter Tryd.func18, Tryd.ntmps18
      go_wp2
      go_ret
      exact ⟨by rw [HL.out]; rfl, rfl⟩

theorem len_lits (y : Int) : Cal.len y 1 = 31 ∧ Cal.len y 3 = 31 ∧ Cal.len y 4 = 30 ∧ Cal.len y 5 = 31 ∧ Cal.len y 6 = 30 ∧ Cal.len y 7 = 31 ∧ Cal.len y 8 = 31 ∧ Cal.len y 9 = 30 ∧ Cal.len y 10 = 31 ∧ Cal.len y 11 = 30 ∧ Cal.len y 12 = 31 :=
  ⟨rfl, rfl, rfl, rfl, rfl, rfl, rfl, rfl, rfl, rfl, rfl⟩

set_option maxHeartbeats 1000000 in
theorem refLen_any (y m : Int) (w : World) : Calls Tryd.prog 20 #[.int .i64 y, .int .i64 m] w fun e w' => e = .returned (.int .i64 (Cal.len y m)) ∧ w = w' := by
  by_cases hm : 1 ≤ m ∧ m ≤ 12
  · rcases Cal.one_to_12 hm.1 hm.2 with rfl | rfl | rfl | rfl | rfl | rfl | rfl | rfl | rfl | rfl | rfl | rfl
    case inr.inl =>
      rcases Cal.leap_cases y with hl | hl
      · have HL := Lib.hid (show Cal.len y 2 = 29 by unfold Cal.len; rw [hl]; rfl)
        have HV := Lib.hid hl
        clear hl hm
        go_enter Tryd.func20, Tryd.ntmps20
        go_wp2_with (go_at_call 18; refine (refLeap_any _ _).mono ?_; rintro e w' ⟨rfl, rfl⟩; rw [HV.out])
        go_ret
        exact ⟨by rw [HL.out]; rfl, rfl⟩
      · have HL := Lib.hid (show Cal.len y 2 = 28 by unfold Cal.len; rw [hl]; rfl)
        have HV := Lib.hid hl
        clear hl hm
        go_enter Tryd.func20, Tryd.ntmps20
        go_wp2_with (go_at_call 18; refine (refLeap_any _ _).mono ?_; rintro e w' ⟨rfl, rfl⟩; rw [HV.out])
        go_ret
        exact ⟨by rw [HL.out]; rfl, rfl⟩
    all_goals
      clear hm
      go_enter Tryd.func20, Tryd.ntmps20
      go_wp2
      go_ret
      exact ⟨rfl, rfl⟩
  · have HL := Lib.hid (Cal.len_out y m (by omega))
    rcases (show m < 1 ∨ 12 < m by omega) with h | h
    all_goals
      clear hm
      go_enter Tryd.func20, Tryd.ntmps20
      go_wp2
      go_ret
      exact ⟨by rw [HL.out]; rfl, rfl⟩

theorem refIs_yes (d : Int) (h0 : 0 ≤ d) (h1 : d < 65536) (w : World) : Calls Tryd.prog 52 #[.int .i64 d] w fun e w' => e = .returned (.bool true) ∧ w = w' := by
  go_enter Tryd.func52, Tryd.ntmps52
  go_wp2
  go_ret
  exact ⟨rfl, rfl⟩
theorem refIs_no (d : Int) (h : d < 0 ∨ 65536 ≤ d) (w : World) : Calls Tryd.prog 52 #[.int .i64 d] w fun e w' => e = .returned (.bool false) ∧ w = w' := by
  rcases h with h | h
  · go_enter Tryd.func52, Tryd.ntmps52
    go_wp2
    go_ret
    exact ⟨rfl, rfl⟩
  · have h' : 0 ≤ d := by omega
    have HF := Lib.hid (decide_eq_false (show ¬ d < 65536 by omega))
    go_enter Tryd.func52, Tryd.ntmps52
    go_wp2
    go_ret
    exact ⟨by show Ending.returned (.bool (decide (d < 65536))) = _; rw [HF.out], rfl⟩

set_option maxHeartbeats 1000000 in
theorem refDay_near (y m d : Int) (hy : 1900 ≤ y ∧ y ≤ 2079) (hm : 1 ≤ m ∧ m ≤ 12) (hd : 1 ≤ d ∧ d ≤ Cal.len y m) (r : Bool) (hr : decide (Cal.dayN y m d < 65536) = r) (v : Value)
    (hv : v = if r = true then .tuple #[.int .i64 (Cal.dayN y m d), .int .i64 0] else .tuple #[.int .i64 0, .int .i64 2]) (w : World) :
    Calls Tryd.prog 16 #[.int .i64 y, .int .i64 m, .int .i64 d] w fun e w' => e = .returned v ∧ w = w' := by
  have HR := Lib.hid hr
  have HV := Lib.hid hv
  have hl := Cal.len_bd y m
  clear hr hv
  go_enter Tryd.func16, Tryd.ntmps16
  go_wp2_with (go_at_call 20; refine (refLen_any _ _ _).mono ?_; rintro e w' ⟨rfl, rfl⟩)
  go_loop [8, 9] (fun v8 v9 => ∃ k : Int, 1900 ≤ k ∧ k ≤ y ∧ v9 = .int .i64 k ∧ v8 = .int .i64 (d - 1 + Cal.dby k)) (fun _ v9 => (3000 - intOf v9).toNat)
  case atStart => exact ⟨1900, by omega, by omega, rfl, by rw [Cal.dby_1900]; congr 1; omega⟩
  case round =>
    obtain ⟨k, hk1, hk2, rfl, rfl⟩ := hrel
    have hb := Cal.dby_bd k hk1 (by omega)
    by_cases hlt : k < y
    · have HS := Lib.hid (Cal.dby_succ k)
      rcases Cal.leap_cases k with hk | hk
      · have HK := Lib.hid hk
        clear hk
        go_wp2_with (go_at_call 18; refine (refLeap_any _ _).mono ?_; rintro e w' ⟨rfl, rfl⟩; rw [HK.out])
        go_round
        case rel => exact ⟨k + 1, by omega, by omega, rfl, by have := HS.out; rw [HK.out, if_pos rfl] at this; congr 1; omega⟩
        case measure => simp [intOf]; omega
      · have HK := Lib.hid hk
        clear hk
        go_wp2_with (go_at_call 18; refine (refLeap_any _ _).mono ?_; rintro e w' ⟨rfl, rfl⟩; rw [HK.out])
        go_round
        case rel => exact ⟨k + 1, by omega, by omega, rfl, by have := HS.out; rw [HK.out, if_neg (by decide)] at this; congr 1; omega⟩
        case measure => simp [intOf]; omega
    · obtain rfl : k = y := by omega
      go_wp2
      go_loop [8, 10] (fun v8 v10 => ∃ j : Int, 1 ≤ j ∧ j ≤ m ∧ v10 = .int .i64 j ∧ v8 = .int .i64 (d - 1 + Cal.dby k + Cal.cum k j)) (fun _ v10 => (13 - intOf v10).toNat)
      case atStart => exact ⟨1, by omega, by omega, rfl, by rw [Cal.cum_one]; congr 1; omega⟩
      case round =>
        obtain ⟨j, hj1, hj2, rfl, rfl⟩ := hrel
        have hcb := Cal.cum_bd k j
        have hlb := Cal.len_bd k j
        by_cases hjt : j < m
        · have HC := Lib.hid (Cal.cum_succ k j hj1 (by omega))
          go_wp2_with (go_at_call 20; refine (refLen_any _ _ _).mono ?_; rintro e w' ⟨rfl, rfl⟩)
          go_round
          case rel => exact ⟨j + 1, by omega, by omega, rfl, by rw [HC.out]; congr 1; omega⟩
          case measure => simp [intOf]; omega
        · obtain rfl : j = m := by omega
          have hN : Cal.dayN k j d = d - 1 + Cal.dby k + Cal.cum k j := by unfold Cal.dayN; omega
          rw [hN] at HR HV
          clear hN
          cases r
          · have hh := of_decide_eq_false HR.out
            go_wp2
            go_ret2
            exact ⟨by rw [HV.out]; rfl, rfl⟩
          · have hh := of_decide_eq_true HR.out
            go_wp2
            go_ret2
            exact ⟨by rw [HV.out]; rfl, rfl⟩

theorem refDay_yes (y m d : Int) (h : Cal.dateB y m d = true) (w : World) : Calls Tryd.prog 16 #[.int .i64 y, .int .i64 m, .int .i64 d] w fun e w' => e = .returned (.tuple #[.int .i64 (Cal.dayN y m d), .int .i64 0]) ∧ w = w' := by
  obtain ⟨a, b, c, f, g, k, l, p⟩ := Cal.date_bd h
  exact refDay_near y m d ⟨a, b⟩ ⟨c, f⟩ ⟨g, k⟩ true (decide_eq_true p) _ rfl w

theorem refDay_no (y m d : Int) (h : Cal.dateB y m d = false) (w : World) : Calls Tryd.prog 16 #[.int .i64 y, .int .i64 m, .int .i64 d] w fun e w' => e = .returned (.tuple #[.int .i64 0, .int .i64 2]) ∧ w = w' := by
  have h' := of_decide_eq_false h
  by_cases h1 : y < 1900
  · clear h' h
    go_enter Tryd.func16, Tryd.ntmps16
    go_wp2
    go_ret2
    exact ⟨rfl, rfl⟩
  by_cases h2 : 2079 < y
  · clear h' h
    go_enter Tryd.func16, Tryd.ntmps16
    go_wp2
    go_ret2
    exact ⟨rfl, rfl⟩
  by_cases h3 : m < 1
  · clear h' h
    go_enter Tryd.func16, Tryd.ntmps16
    go_wp2
    go_ret2
    exact ⟨rfl, rfl⟩
  by_cases h4 : 12 < m
  · clear h' h
    go_enter Tryd.func16, Tryd.ntmps16
    go_wp2
    go_ret2
    exact ⟨rfl, rfl⟩
  by_cases h5 : d < 1
  · clear h' h
    go_enter Tryd.func16, Tryd.ntmps16
    go_wp2
    go_ret2
    exact ⟨rfl, rfl⟩
  by_cases h6 : Cal.len y m < d
  · have hl := Cal.len_bd y m
    clear h' h
    go_enter Tryd.func16, Tryd.ntmps16
    go_wp2_with (go_at_call 20; refine (refLen_any _ _ _).mono ?_; rintro e w' ⟨rfl, rfl⟩)
    go_ret2
    exact ⟨rfl, rfl⟩
  exact refDay_near y m d ⟨by omega, by omega⟩ ⟨by omega, by omega⟩ ⟨by omega, by omega⟩ false (decide_eq_false fun hh => h' ⟨by omega, by omega, by omega, by omega, by omega, by omega, hh⟩) _ rfl w

theorem ym_next {n : Int} (h : Cal.mo n = 12) : Cal.yr (n + 1) = Cal.yr n + 1 ∧ Cal.mo (n + 1) = 1 := by unfold Cal.mo Cal.yr at *; omega
theorem ym_same {n : Int} (h : ¬ Cal.mo n = 12) : Cal.yr (n + 1) = Cal.yr n ∧ Cal.mo (n + 1) = Cal.mo n + 1 := by unfold Cal.mo Cal.yr at *; omega

set_option maxHeartbeats 1000000 in
theorem refYMD_yes (day : Int) (h0 : 0 ≤ day) (h1 : day < 65536) (w : World) :
    Calls Tryd.prog 38 #[.int .i64 day] w fun e w' => e = .returned (.tuple #[.int .i64 (Cal.yr (Cal.mon day)), .int .i64 (Cal.mo (Cal.mon day)), .int .i64 (Cal.dom day), .int .i64 0]) ∧ w = w' := by
  go_enter Tryd.func38, Tryd.ntmps38
  go_wp2_with (go_at_call 52; refine (refIs_yes _ h0 h1 _).mono ?_; rintro e w' ⟨rfl, rfl⟩)
  go_loop [6, 7, 8] (fun v6 v7 v8 => ∃ n : Int, 0 ≤ n ∧ n ≤ 2153 ∧ Cal.start n ≤ day ∧ v6 = .int .i64 (Cal.yr n) ∧ v7 = .int .i64 (Cal.mo n) ∧ v8 = .int .i64 (day - Cal.start n)) (fun _ _ v8 => (intOf v8).toNat)
  case atStart => exact ⟨0, by omega, by omega, by rw [Cal.start_0]; exact h0, rfl, rfl, by rw [Cal.start_0]; congr 1; omega⟩
  case round =>
    obtain ⟨n, hn0, hn1, hs, rfl, rfl, rfl⟩ := hrel
    have hm := Cal.mo_bd n
    have hy := Cal.yr_bd hn0 (show n ≤ 2159 by omega)
    have hk := Cal.mlen_bd n
    have hsb := Cal.start_bd hn0 (show n ≤ 2154 by omega)
    have HM := Lib.hid (Cal.mlen_ym n)
    by_cases hc : Cal.mlen n ≤ day - Cal.start n
    · have HS := Lib.hid (Cal.start_succ n hn0)
      have hn2 : n + 1 ≤ 2153 := by
        have hss := Cal.start_succ n hn0
        rcases Int.lt_or_le 2153 (n + 1) with hh | hh
        · rw [show n + 1 = 2154 by omega, Cal.start_2154] at hss; omega
        · exact hh
      by_cases h12 : Cal.mo n = 12
      · have HN := Lib.hid (ym_next h12)
        have h12' : (12 : Int) < Cal.mo n + 1 := by omega
        clear h12
        go_wp2_with (go_at_call 20; refine (refLen_any _ _ _).mono ?_; rintro e w' ⟨rfl, rfl⟩; rw [← HM.out])
        go_round
        case rel => exact ⟨n + 1, by omega, hn2, by have := HS.out; omega, by rw [HN.out.1], by rw [HN.out.2], by rw [HS.out]; congr 1; omega⟩
        case measure => simp [intOf]; omega
      · have HN := Lib.hid (ym_same h12)
        have h12' : ¬ (12 : Int) < Cal.mo n + 1 := by omega
        clear h12
        go_wp2_with (go_at_call 20; refine (refLen_any _ _ _).mono ?_; rintro e w' ⟨rfl, rfl⟩; rw [← HM.out])
        go_round
        case rel => exact ⟨n + 1, by omega, hn2, by have := HS.out; omega, by rw [HN.out.1], by rw [HN.out.2], by rw [HS.out]; congr 1; omega⟩
        case measure => simp [intOf]; omega
    · have HE := Lib.hid (Cal.mon_uniq h0 h1 hn0 hs (by omega))
      have HD := Lib.hid (show Cal.dom day = day - Cal.start n + 1 by have := HE.out; unfold Cal.dom; rw [this])
      go_wp2_with (go_at_call 20; refine (refLen_any _ _ _).mono ?_; rintro e w' ⟨rfl, rfl⟩; rw [← HM.out])
      refine bodyPost_ret (results_tmp4 rfl _ _ _) rfl ?_
      exact ⟨by rw [HD.out, HE.out]; rfl, rfl⟩

theorem refYMD_no (day : Int) (h : day < 0 ∨ 65536 ≤ day) (w : World) :
    Calls Tryd.prog 38 #[.int .i64 day] w fun e w' => e = .returned (.tuple #[.int .i64 0, .int .i64 0, .int .i64 0, .int .i64 2]) ∧ w = w' := by
  have H := Lib.hid h
  clear h
  go_enter Tryd.func38, Tryd.ntmps38
  go_wp2_with (go_at_call 52; refine (refIs_no _ H.out _).mono ?_; rintro e w' ⟨rfl, rfl⟩)
  refine bodyPost_ret (results_tmp4 rfl _ _ _) rfl ?_
  exact ⟨rfl, rfl⟩

end Go.Proofs.YtmjmpdbkijhkiaaDoor
