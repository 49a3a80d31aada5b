/-
The reference: 'Add', 'Between', 'Age', 'Month', 'First', 'Weekday'.
-/
import Derived.Test.YtmjmpdbkijhkiaaDoorCRef
namespace Go.Proofs.YtmjmpdbkijhkiaaDoor
open Go.RowKit

/-- A call that only reads, in every world. -/
def Pure (f : Nat) (args : Array Value) (v : Value) : Prop := ∀ w : World, Calls Tryd.prog f args w fun e w' => e = .returned v ∧ w = w'
theorem Pure.go {f : Nat} {args : Array Value} {v : Value} (h : Pure f args v) (w : World) : Calls Tryd.prog f args w fun e w' => e = .returned v ∧ w = w' := h w

theorem ref_len (y m : Int) : Pure 20 #[.int .i64 y, .int .i64 m] (.int .i64 (Cal.len y m)) := fun w => refLen_any y m w
theorem ref_ymd (d : Int) (h0 : 0 ≤ d) (h1 : d < 65536) : Pure 38 #[.int .i64 d] (.tuple #[.int .i64 (Cal.yr (Cal.mon d)), .int .i64 (Cal.mo (Cal.mon d)), .int .i64 (Cal.dom d), .int .i64 0]) := fun w => refYMD_yes d h0 h1 w
theorem ref_ymd_no (d : Int) (h : d < 0 ∨ 65536 ≤ d) : Pure 38 #[.int .i64 d] (.tuple #[.int .i64 0, .int .i64 0, .int .i64 0, .int .i64 2]) := fun w => refYMD_no d h w
theorem ref_is (d : Int) (h0 : 0 ≤ d) (h1 : d < 65536) : Pure 52 #[.int .i64 d] (.bool true) := fun w => refIs_yes d h0 h1 w
theorem ref_is_no (d : Int) (h : d < 0 ∨ 65536 ≤ d) : Pure 52 #[.int .i64 d] (.bool false) := fun w => refIs_no d h w

set_option maxHeartbeats 1000000 in
theorem refAdd_0 (day n : Int)
    (HY : Pure 38 #[.int .i64 day] (.tuple #[.int .i64 0, .int .i64 0, .int .i64 0, .int .i64 2])) :
    Pure 42 #[.int .i64 day, .int .i64 n] (.tuple #[.int .i64 0, .int .i64 2]) := by
  intro w
  go_enter Tryd.func42, Tryd.ntmps42
  go_wp2_with (first
    | (go_at_call 38; ((with_reducible refine (HY.go _).mono ?_); rintro e w' ⟨rfl, rfl⟩)))
  go_ret2
  exact ⟨rfl, rfl⟩

set_option maxHeartbeats 1000000 in
theorem refAdd_lo (day n Y M D : Int) (_hY : 1900 ≤ Y ∧ Y ≤ 2079) (_hM : 1 ≤ M ∧ M ≤ 12) (_hn : n < -2153)
    (HY : Pure 38 #[.int .i64 day] (.tuple #[.int .i64 Y, .int .i64 M, .int .i64 D, .int .i64 0])) :
    Pure 42 #[.int .i64 day, .int .i64 n] (.tuple #[.int .i64 0, .int .i64 30]) := by
  intro w
  go_enter Tryd.func42, Tryd.ntmps42
  go_wp2_with (first
    | (go_at_call 38; ((with_reducible refine (HY.go _).mono ?_); rintro e w' ⟨rfl, rfl⟩)))
  go_ret2
  exact ⟨rfl, rfl⟩

set_option maxHeartbeats 1000000 in
theorem refAdd_hi (day n Y M D : Int) (_hY : 1900 ≤ Y ∧ Y ≤ 2079) (_hM : 1 ≤ M ∧ M ≤ 12) (_hn : 2153 < n)
    (HY : Pure 38 #[.int .i64 day] (.tuple #[.int .i64 Y, .int .i64 M, .int .i64 D, .int .i64 0])) :
    Pure 42 #[.int .i64 day, .int .i64 n] (.tuple #[.int .i64 0, .int .i64 30]) := by
  intro w
  go_enter Tryd.func42, Tryd.ntmps42
  go_wp2_with (first
    | (go_at_call 38; ((with_reducible refine (HY.go _).mono ?_); rintro e w' ⟨rfl, rfl⟩)))
  go_ret2
  exact ⟨rfl, rfl⟩

set_option maxHeartbeats 1000000 in
theorem refAdd_neg (day n Y M D : Int) (_hY : 1900 ≤ Y ∧ Y ≤ 2079) (_hM : 1 ≤ M ∧ M ≤ 12) (_hn : -2153 ≤ n ∧ n ≤ 2153) (_hk : 12 * (Y - 1900) + M - 1 + n < 0)
    (HY : Pure 38 #[.int .i64 day] (.tuple #[.int .i64 Y, .int .i64 M, .int .i64 D, .int .i64 0])) :
    Pure 42 #[.int .i64 day, .int .i64 n] (.tuple #[.int .i64 0, .int .i64 30]) := by
  intro w
  go_enter Tryd.func42, Tryd.ntmps42
  go_wp2_with (first
    | (go_at_call 38; ((with_reducible refine (HY.go _).mono ?_); rintro e w' ⟨rfl, rfl⟩)))
  go_ret2
  exact ⟨rfl, rfl⟩

set_option maxHeartbeats 1000000 in
theorem refAdd_q0 (day n Y M D Q v : Int) (_hY : 1900 ≤ Y ∧ Y ≤ 2079) (_hM : 1 ≤ M ∧ M ≤ 12) (_hn : -2153 ≤ n ∧ n ≤ 2153) (_hk : 0 ≤ 12 * (Y - 1900) + M - 1 + n) (_hq : Q < D)
    (HY : Pure 38 #[.int .i64 day] (.tuple #[.int .i64 Y, .int .i64 M, .int .i64 D, .int .i64 0]))
    (HL : Pure 20 #[.int .i64 (1900 + (12 * (Y - 1900) + M - 1 + n) / 12), .int .i64 ((12 * (Y - 1900) + M - 1 + n) % 12 + 1)] (.int .i64 Q))
    (HD : Pure 16 #[.int .i64 (1900 + (12 * (Y - 1900) + M - 1 + n) / 12), .int .i64 ((12 * (Y - 1900) + M - 1 + n) % 12 + 1), .int .i64 Q] (.tuple #[.int .i64 v, .int .i64 0])) :
    Pure 42 #[.int .i64 day, .int .i64 n] (.tuple #[.int .i64 v, .int .i64 0]) := by
  intro w
  go_enter Tryd.func42, Tryd.ntmps42
  go_wp2_with (first
    | (go_at_call 38; ((with_reducible refine (HY.go _).mono ?_); rintro e w' ⟨rfl, rfl⟩))
    | (go_at_call 20; ((with_reducible refine (HL.go _).mono ?_); rintro e w' ⟨rfl, rfl⟩))
    | (go_at_call 16; ((with_reducible refine (HD.go _).mono ?_); rintro e w' ⟨rfl, rfl⟩)))
  go_ret2
  exact ⟨rfl, rfl⟩

set_option maxHeartbeats 1000000 in
theorem refAdd_q2 (day n Y M D Q : Int) (_hY : 1900 ≤ Y ∧ Y ≤ 2079) (_hM : 1 ≤ M ∧ M ≤ 12) (_hn : -2153 ≤ n ∧ n ≤ 2153) (_hk : 0 ≤ 12 * (Y - 1900) + M - 1 + n) (_hq : Q < D)
    (HY : Pure 38 #[.int .i64 day] (.tuple #[.int .i64 Y, .int .i64 M, .int .i64 D, .int .i64 0]))
    (HL : Pure 20 #[.int .i64 (1900 + (12 * (Y - 1900) + M - 1 + n) / 12), .int .i64 ((12 * (Y - 1900) + M - 1 + n) % 12 + 1)] (.int .i64 Q))
    (HD : Pure 16 #[.int .i64 (1900 + (12 * (Y - 1900) + M - 1 + n) / 12), .int .i64 ((12 * (Y - 1900) + M - 1 + n) % 12 + 1), .int .i64 Q] (.tuple #[.int .i64 0, .int .i64 2])) :
    Pure 42 #[.int .i64 day, .int .i64 n] (.tuple #[.int .i64 0, .int .i64 30]) := by
  intro w
  go_enter Tryd.func42, Tryd.ntmps42
  go_wp2_with (first
    | (go_at_call 38; ((with_reducible refine (HY.go _).mono ?_); rintro e w' ⟨rfl, rfl⟩))
    | (go_at_call 20; ((with_reducible refine (HL.go _).mono ?_); rintro e w' ⟨rfl, rfl⟩))
    | (go_at_call 16; ((with_reducible refine (HD.go _).mono ?_); rintro e w' ⟨rfl, rfl⟩)))
  go_ret2
  exact ⟨rfl, rfl⟩

set_option maxHeartbeats 1000000 in
theorem refAdd_d0 (day n Y M D Q v : Int) (_hY : 1900 ≤ Y ∧ Y ≤ 2079) (_hM : 1 ≤ M ∧ M ≤ 12) (_hn : -2153 ≤ n ∧ n ≤ 2153) (_hk : 0 ≤ 12 * (Y - 1900) + M - 1 + n) (_hq : ¬ Q < D)
    (HY : Pure 38 #[.int .i64 day] (.tuple #[.int .i64 Y, .int .i64 M, .int .i64 D, .int .i64 0]))
    (HL : Pure 20 #[.int .i64 (1900 + (12 * (Y - 1900) + M - 1 + n) / 12), .int .i64 ((12 * (Y - 1900) + M - 1 + n) % 12 + 1)] (.int .i64 Q))
    (HD : Pure 16 #[.int .i64 (1900 + (12 * (Y - 1900) + M - 1 + n) / 12), .int .i64 ((12 * (Y - 1900) + M - 1 + n) % 12 + 1), .int .i64 D] (.tuple #[.int .i64 v, .int .i64 0])) :
    Pure 42 #[.int .i64 day, .int .i64 n] (.tuple #[.int .i64 v, .int .i64 0]) := by
  intro w
  go_enter Tryd.func42, Tryd.ntmps42
  go_wp2_with (first
    | (go_at_call 38; ((with_reducible refine (HY.go _).mono ?_); rintro e w' ⟨rfl, rfl⟩))
    | (go_at_call 20; ((with_reducible refine (HL.go _).mono ?_); rintro e w' ⟨rfl, rfl⟩))
    | (go_at_call 16; ((with_reducible refine (HD.go _).mono ?_); rintro e w' ⟨rfl, rfl⟩)))
  go_ret2
  exact ⟨rfl, rfl⟩

set_option maxHeartbeats 1000000 in
theorem refAdd_d2 (day n Y M D Q : Int) (_hY : 1900 ≤ Y ∧ Y ≤ 2079) (_hM : 1 ≤ M ∧ M ≤ 12) (_hn : -2153 ≤ n ∧ n ≤ 2153) (_hk : 0 ≤ 12 * (Y - 1900) + M - 1 + n) (_hq : ¬ Q < D)
    (HY : Pure 38 #[.int .i64 day] (.tuple #[.int .i64 Y, .int .i64 M, .int .i64 D, .int .i64 0]))
    (HL : Pure 20 #[.int .i64 (1900 + (12 * (Y - 1900) + M - 1 + n) / 12), .int .i64 ((12 * (Y - 1900) + M - 1 + n) % 12 + 1)] (.int .i64 Q))
    (HD : Pure 16 #[.int .i64 (1900 + (12 * (Y - 1900) + M - 1 + n) / 12), .int .i64 ((12 * (Y - 1900) + M - 1 + n) % 12 + 1), .int .i64 D] (.tuple #[.int .i64 0, .int .i64 2])) :
    Pure 42 #[.int .i64 day, .int .i64 n] (.tuple #[.int .i64 0, .int .i64 30]) := by
  intro w
  go_enter Tryd.func42, Tryd.ntmps42
  go_wp2_with (first
    | (go_at_call 38; ((with_reducible refine (HY.go _).mono ?_); rintro e w' ⟨rfl, rfl⟩))
    | (go_at_call 20; ((with_reducible refine (HL.go _).mono ?_); rintro e w' ⟨rfl, rfl⟩))
    | (go_at_call 16; ((with_reducible refine (HD.go _).mono ?_); rintro e w' ⟨rfl, rfl⟩)))
  go_ret2
  exact ⟨rfl, rfl⟩

theorem day_later {a n : Int} (h0 : 0 ≤ a) (h1 : a < 65536) (hk : 0 ≤ Cal.mon a + n) : Cal.dateB (Cal.yr (Cal.mon a + n)) (Cal.mo (Cal.mon a + n)) (min (Cal.dom a) (Cal.mlen (Cal.mon a + n))) = Cal.laterB a n ∧ Cal.dayN (Cal.yr (Cal.mon a + n)) (Cal.mo (Cal.mon a + n)) (min (Cal.dom a) (Cal.mlen (Cal.mon a + n))) = Cal.laterN a n := by
  obtain ⟨p, p', _, _⟩ := Cal.mon_spec h0 h1
  have hd := Cal.dom_bd h0 h1
  have hm := Cal.mlen_bd (Cal.mon a + n)
  have hmo := Cal.mo_bd (Cal.mon a + n)
  have e : Cal.dayN (Cal.yr (Cal.mon a + n)) (Cal.mo (Cal.mon a + n)) (min (Cal.dom a) (Cal.mlen (Cal.mon a + n))) = Cal.laterN a n := by
    unfold Cal.dayN Cal.laterN
    rw [Cal.start_ym]
  refine ⟨?_, e⟩
  unfold Cal.dateB Cal.laterB
  rw [e, ← Cal.mlen_ym]
  apply decide_eq_decide.2
  constructor
  · rintro ⟨h1, h2, h3, h4, h5, h6, h7⟩
    refine ⟨by omega, ?_, h7⟩
    apply Int.not_le.1
    intro hh
    have := Cal.start_le (a := 2154) (b := Cal.mon a + n) (by omega) (by omega)
    rw [Cal.start_2154] at this
    unfold Cal.laterN at h7
    omega
  · rintro ⟨h1, h2, h3⟩
    have hy := Cal.yr_bd hk (show Cal.mon a + n ≤ 2159 by omega)
    exact ⟨hy.1, hy.2, hmo.1, hmo.2, by omega, by omega, h3⟩

theorem ref_add_no (a n : Int) (h : a < 0 ∨ 65536 ≤ a) : Pure 42 #[.int .i64 a, .int .i64 n] (.tuple #[.int .i64 0, .int .i64 2]) := refAdd_0 a n (ref_ymd_no a h)

theorem ref_add (a n : Int) (h0 : 0 ≤ a) (h1 : a < 65536) : Pure 42 #[.int .i64 a, .int .i64 n] (if Cal.laterB a n = true then .tuple #[.int .i64 (Cal.laterN a n), .int .i64 0] else .tuple #[.int .i64 0, .int .i64 30]) := by
  obtain ⟨p, p', _, _⟩ := Cal.mon_spec h0 h1
  have hY := ref_ymd a h0 h1
  have hy := Cal.yr_bd p (show Cal.mon a ≤ 2159 by omega)
  have hm := Cal.mo_bd (Cal.mon a)
  have hk := Cal.ym_back (Cal.mon a)
  by_cases c1 : n < -2153
  · rw [if_neg (fun hl => by have := of_decide_eq_true hl; omega)]
    exact refAdd_lo a n _ _ _ hy hm c1 hY
  by_cases c2 : 2153 < n
  · rw [if_neg (fun hl => by have := of_decide_eq_true hl; omega)]
    exact refAdd_hi a n _ _ _ hy hm c2 hY
  by_cases c3 : Cal.mon a + n < 0
  · rw [if_neg (fun hl => by have := of_decide_eq_true hl; omega)]
    exact refAdd_neg a n _ _ _ hy hm (by omega) (by omega) hY
  have hkk : 12 * (Cal.yr (Cal.mon a) - 1900) + Cal.mo (Cal.mon a) - 1 + n = Cal.mon a + n := by omega
  obtain ⟨d1, d2⟩ := day_later h0 h1 (n := n) (by omega)
  have hL : Pure 20 #[.int .i64 (1900 + (12 * (Cal.yr (Cal.mon a) - 1900) + Cal.mo (Cal.mon a) - 1 + n) / 12), .int .i64 ((12 * (Cal.yr (Cal.mon a) - 1900) + Cal.mo (Cal.mon a) - 1 + n) % 12 + 1)] (.int .i64 (Cal.mlen (Cal.mon a + n))) := by
    rw [hkk]; exact ref_len _ _
  by_cases hq : Cal.mlen (Cal.mon a + n) < Cal.dom a
  · rw [show min (Cal.dom a) (Cal.mlen (Cal.mon a + n)) = Cal.mlen (Cal.mon a + n) by omega] at d1 d2
    rcases Bool.eq_false_or_eq_true (Cal.laterB a n) with hl | hl
    · rw [if_pos hl]
      refine refAdd_q0 a n _ _ _ _ _ hy hm (by omega) (by omega) hq hY hL ?_
      rw [hkk]
      intro w
      have := refDay_yes _ _ _ (d1.trans hl) w
      rwa [d2] at this
    · rw [if_neg (by rw [hl]; decide)]
      refine refAdd_q2 a n _ _ _ _ hy hm (by omega) (by omega) hq hY hL ?_
      rw [hkk]
      exact fun w => refDay_no _ _ _ (d1.trans hl) w
  · rw [show min (Cal.dom a) (Cal.mlen (Cal.mon a + n)) = Cal.dom a by omega] at d1 d2
    rcases Bool.eq_false_or_eq_true (Cal.laterB a n) with hl | hl
    · rw [if_pos hl]
      refine refAdd_d0 a n _ _ _ _ _ hy hm (by omega) (by omega) hq hY hL ?_
      rw [hkk]
      intro w
      have := refDay_yes _ _ _ (d1.trans hl) w
      rwa [d2] at this
    · rw [if_neg (by rw [hl]; decide)]
      refine refAdd_d2 a n _ _ _ _ hy hm (by omega) (by omega) hq hY hL ?_
      rw [hkk]
      exact fun w => refDay_no _ _ _ (d1.trans hl) w

theorem whole_uniq {a b n : Int} (h0 : 0 ≤ a) (h : a ≤ b) (h1 : b < 65536) (hn : 0 ≤ n) (hm : Cal.mon a + n ≤ 2153) (hl : Cal.laterN a n ≤ b) (hg : b < Cal.laterN a (n + 1)) : Cal.whole a b = n := by
  obtain ⟨p, p', _, _⟩ := Cal.mon_spec h0 (show a < 65536 by omega)
  obtain ⟨w1, w2, w3, w4, w5, w6⟩ := Cal.whole_spec h0 h h1
  generalize Cal.whole a b = m at *
  have w3' := of_decide_eq_true w3
  apply Int.le_antisymm
  · apply Int.not_lt.1
    intro hh
    rcases Int.lt_or_eq_of_le (show n + 1 ≤ m by omega) with g | g
    · have := Cal.later_mono h0 (show a < 65536 by omega) (n := n + 1) (m := m) (by omega) g w3'.2.1; omega
    · rw [g] at hg; omega
  · apply Int.not_lt.1
    intro hh
    have e : Cal.laterN a (m + 1) ≤ b := by
      rcases Int.lt_or_eq_of_le (show m + 1 ≤ n by omega) with g | g
      · have := Cal.later_mono h0 (show a < 65536 by omega) (n := m + 1) (m := n) (by omega) g (by omega); omega
      · rw [g]; exact hl
    have := w6 (decide_eq_true ⟨by omega, by omega, by omega⟩)
    omega

set_option maxHeartbeats 4000000 in
theorem ref_btw_le (a b : Int) (h0 : 0 ≤ a) (h : a ≤ b) (h1 : b < 65536) : Pure 43 #[.int .i64 a, .int .i64 b] (.tuple #[.int .i64 (Cal.whole a b), .int .i64 0]) := by
  intro w
  obtain ⟨p, p', _, _⟩ := Cal.mon_spec h0 (show a < 65536 by omega)
  have hd := Cal.dom_bd h0 (show a < 65536 by omega)
  have hd1 : 1 ≤ Cal.dom a ∧ Cal.dom a ≤ 31 := ⟨hd.1, hd.2.2⟩
  have HF := Lib.hid (show a - Cal.dom a + 1 = Cal.start (Cal.mon a) by unfold Cal.dom; omega)
  have H1 := Lib.hid (ref_is a h0 (by omega))
  have H2 := Lib.hid (ref_is b (by omega) h1)
  have HY := Lib.hid (ref_ymd a h0 (by omega))
  have HZ := Lib.hid (Cal.laterN_zero h0 (show a < 65536 by omega))
  clear hd
  go_enter Tryd.func43, Tryd.ntmps43
  go_wp2_with (first
    | (go_at_call 52; ((with_reducible refine (H1.out.go _).mono ?_); rintro e w' ⟨rfl, rfl⟩))
    | (go_at_call 52; ((with_reducible refine (H2.out.go _).mono ?_); rintro e w' ⟨rfl, rfl⟩))
    | (go_at_call 38; ((with_reducible refine (HY.out.go _).mono ?_); rintro e w' ⟨rfl, rfl⟩)))
  go_loop [8, 9, 12, 13] (fun v8 v9 v12 v13 => ∃ N : Int, Cal.mon a ≤ N ∧ N ≤ 2153 ∧ Cal.laterN a (N - Cal.mon a) ≤ b ∧ v8 = .int .i64 (Cal.yr N) ∧ v9 = .int .i64 (Cal.mo N) ∧ v12 = .int .i64 (Cal.start N) ∧ v13 = .int .i64 (N - Cal.mon a)) (fun _ _ _ v13 => (2200 - intOf v13).toNat)
  case atStart => exact ⟨Cal.mon a, by omega, p', by rw [show Cal.mon a - Cal.mon a = 0 by omega, HZ.out]; exact h, rfl, rfl, by rw [HF.out], by congr 1; omega⟩
  case round =>
    obtain ⟨N, hN0, hN1, hle, rfl, rfl, rfl, rfl⟩ := hrel
    have hsb := Cal.start_bd (n := N) (by omega) (by omega)
    have hk := Cal.mlen_bd N
    have hm := Cal.mo_bd N
    have hy := Cal.yr_bd (n := N) (by omega) (by omega)
    have hq := Cal.mlen_bd (N + 1)
    have HM := Lib.hid (Cal.mlen_ym N)
    have HM' := Lib.hid (Cal.mlen_ym (N + 1))
    have HS := Lib.hid (Cal.start_succ N (by omega))
    have HLt := Lib.hid (show Cal.laterN a (N + 1 - Cal.mon a) = Cal.start (N + 1) + min (Cal.dom a) (Cal.mlen (N + 1)) - 1 by unfold Cal.laterN; rw [show Cal.mon a + (N + 1 - Cal.mon a) = N + 1 by omega])
    have HLE := Lib.hid hle
    clear hle
    obtain ⟨Q, hQ⟩ : ∃ Q, Q = Cal.mlen (N + 1) := ⟨_, rfl⟩
    obtain ⟨S, hS⟩ : ∃ S, S = Cal.start N := ⟨_, rfl⟩
    obtain ⟨L, hL⟩ : ∃ L, L = Cal.mlen N := ⟨_, rfl⟩
    obtain ⟨Y, hY⟩ : ∃ Y, Y = Cal.yr N := ⟨_, rfl⟩
    obtain ⟨M, hM⟩ : ∃ M, M = Cal.mo N := ⟨_, rfl⟩
    rw [← hQ] at hq HM' HLt
    rw [← hS] at hsb HS ⊢
    rw [← hL] at hk HM HS
    rw [← hY] at hy HM ⊢
    rw [← hM] at hm HM ⊢
    have HYN := Lib.hid hY
    have HMN := Lib.hid hM
    clear hQ hS hL hY hM
    by_cases h12 : M = 12
    · have HL1 := Lib.hid (show Pure 20 #[.int .i64 Y, .int .i64 M] (.int .i64 L) by rw [HM.out]; exact ref_len _ _)
      have HN := Lib.hid (show Cal.yr (N + 1) = Y + 1 ∧ Cal.mo (N + 1) = 1 by rw [HYN.out]; exact ym_next (by rw [← HMN.out]; exact h12))
      have HL2 := Lib.hid (show Pure 20 #[.int .i64 (Y + 1), .int .i64 1] (.int .i64 Q) by rw [HM'.out, HN.out.1, HN.out.2]; exact ref_len _ _)
      have h12' : (12 : Int) < M + 1 := by omega
      clear h12
      by_cases hcq : Q < Cal.dom a
      · have HX := Lib.hid (show Cal.laterN a (N + 1 - Cal.mon a) = S + L + Q - 1 by rw [HLt.out, HS.out]; omega)
        by_cases hcg : b < S + L + Q - 1
        · have HW := Lib.hid (whole_uniq h0 h h1 (n := N - Cal.mon a) (by omega) (by omega) HLE.out (by rw [show N - Cal.mon a + 1 = N + 1 - Cal.mon a by omega, HX.out]; exact hcg))
          go_wp2_with (first
            | (go_at_call 20; ((with_reducible refine (HL1.out.go _).mono ?_); rintro e w' ⟨rfl, rfl⟩))
            | (go_at_call 20; ((with_reducible refine (HL2.out.go _).mono ?_); rintro e w' ⟨rfl, rfl⟩)))
          go_ret2
          exact ⟨by rw [HW.out]; rfl, rfl⟩
        · have HLN := Lib.hid (show Cal.laterN a (N + 1 - Cal.mon a) ≤ b by rw [HX.out]; omega)
          have HN1 := Lib.hid (show N + 1 ≤ 2153 by
            apply Int.not_lt.1
            intro hh
            have e := HS.out
            rw [show N + 1 = 2154 by omega, Cal.start_2154] at e
            omega)
          go_wp2_with (first
            | (go_at_call 20; ((with_reducible refine (HL1.out.go _).mono ?_); rintro e w' ⟨rfl, rfl⟩))
            | (go_at_call 20; ((with_reducible refine (HL2.out.go _).mono ?_); rintro e w' ⟨rfl, rfl⟩)))
          go_round
          case rel => exact ⟨N + 1, by omega, HN1.out, HLN.out, by rw [HN.out.1], by rw [HN.out.2], by rw [HS.out], by congr 1; omega⟩
          case measure => simp [intOf]; omega
      · have HX := Lib.hid (show Cal.laterN a (N + 1 - Cal.mon a) = S + L + Cal.dom a - 1 by rw [HLt.out, HS.out]; omega)
        by_cases hcg : b < S + L + Cal.dom a - 1
        · have HW := Lib.hid (whole_uniq h0 h h1 (n := N - Cal.mon a) (by omega) (by omega) HLE.out (by rw [show N - Cal.mon a + 1 = N + 1 - Cal.mon a by omega, HX.out]; exact hcg))
          go_wp2_with (first
            | (go_at_call 20; ((with_reducible refine (HL1.out.go _).mono ?_); rintro e w' ⟨rfl, rfl⟩))
            | (go_at_call 20; ((with_reducible refine (HL2.out.go _).mono ?_); rintro e w' ⟨rfl, rfl⟩)))
          go_ret2
          exact ⟨by rw [HW.out]; rfl, rfl⟩
        · have HLN := Lib.hid (show Cal.laterN a (N + 1 - Cal.mon a) ≤ b by rw [HX.out]; omega)
          have HN1 := Lib.hid (show N + 1 ≤ 2153 by
            apply Int.not_lt.1
            intro hh
            have e := HS.out
            rw [show N + 1 = 2154 by omega, Cal.start_2154] at e
            omega)
          go_wp2_with (first
            | (go_at_call 20; ((with_reducible refine (HL1.out.go _).mono ?_); rintro e w' ⟨rfl, rfl⟩))
            | (go_at_call 20; ((with_reducible refine (HL2.out.go _).mono ?_); rintro e w' ⟨rfl, rfl⟩)))
          go_round
          case rel => exact ⟨N + 1, by omega, HN1.out, HLN.out, by rw [HN.out.1], by rw [HN.out.2], by rw [HS.out], by congr 1; omega⟩
          case measure => simp [intOf]; omega
    · have HL1 := Lib.hid (show Pure 20 #[.int .i64 Y, .int .i64 M] (.int .i64 L) by rw [HM.out]; exact ref_len _ _)
      have HN := Lib.hid (show Cal.yr (N + 1) = Y ∧ Cal.mo (N + 1) = M + 1 by rw [HYN.out, HMN.out]; exact ym_same (by rw [← HMN.out]; exact h12))
      have HL2 := Lib.hid (show Pure 20 #[.int .i64 Y, .int .i64 (M + 1)] (.int .i64 Q) by rw [HM'.out, HN.out.1, HN.out.2]; exact ref_len _ _)
      have h12' : ¬ (12 : Int) < M + 1 := by omega
      clear h12
      by_cases hcq : Q < Cal.dom a
      · have HX := Lib.hid (show Cal.laterN a (N + 1 - Cal.mon a) = S + L + Q - 1 by rw [HLt.out, HS.out]; omega)
        by_cases hcg : b < S + L + Q - 1
        · have HW := Lib.hid (whole_uniq h0 h h1 (n := N - Cal.mon a) (by omega) (by omega) HLE.out (by rw [show N - Cal.mon a + 1 = N + 1 - Cal.mon a by omega, HX.out]; exact hcg))
          go_wp2_with (first
            | (go_at_call 20; ((with_reducible refine (HL1.out.go _).mono ?_); rintro e w' ⟨rfl, rfl⟩))
            | (go_at_call 20; ((with_reducible refine (HL2.out.go _).mono ?_); rintro e w' ⟨rfl, rfl⟩)))
          go_ret2
          exact ⟨by rw [HW.out]; rfl, rfl⟩
        · have HLN := Lib.hid (show Cal.laterN a (N + 1 - Cal.mon a) ≤ b by rw [HX.out]; omega)
          have HN1 := Lib.hid (show N + 1 ≤ 2153 by
            apply Int.not_lt.1
            intro hh
            have e := HS.out
            rw [show N + 1 = 2154 by omega, Cal.start_2154] at e
            omega)
          go_wp2_with (first
            | (go_at_call 20; ((with_reducible refine (HL1.out.go _).mono ?_); rintro e w' ⟨rfl, rfl⟩))
            | (go_at_call 20; ((with_reducible refine (HL2.out.go _).mono ?_); rintro e w' ⟨rfl, rfl⟩)))
          go_round
          case rel => exact ⟨N + 1, by omega, HN1.out, HLN.out, by rw [HN.out.1], by rw [HN.out.2], by rw [HS.out], by congr 1; omega⟩
          case measure => simp [intOf]; omega
      · have HX := Lib.hid (show Cal.laterN a (N + 1 - Cal.mon a) = S + L + Cal.dom a - 1 by rw [HLt.out, HS.out]; omega)
        by_cases hcg : b < S + L + Cal.dom a - 1
        · have HW := Lib.hid (whole_uniq h0 h h1 (n := N - Cal.mon a) (by omega) (by omega) HLE.out (by rw [show N - Cal.mon a + 1 = N + 1 - Cal.mon a by omega, HX.out]; exact hcg))
          go_wp2_with (first
            | (go_at_call 20; ((with_reducible refine (HL1.out.go _).mono ?_); rintro e w' ⟨rfl, rfl⟩))
            | (go_at_call 20; ((with_reducible refine (HL2.out.go _).mono ?_); rintro e w' ⟨rfl, rfl⟩)))
          go_ret2
          exact ⟨by rw [HW.out]; rfl, rfl⟩
        · have HLN := Lib.hid (show Cal.laterN a (N + 1 - Cal.mon a) ≤ b by rw [HX.out]; omega)
          have HN1 := Lib.hid (show N + 1 ≤ 2153 by
            apply Int.not_lt.1
            intro hh
            have e := HS.out
            rw [show N + 1 = 2154 by omega, Cal.start_2154] at e
            omega)
          go_wp2_with (first
            | (go_at_call 20; ((with_reducible refine (HL1.out.go _).mono ?_); rintro e w' ⟨rfl, rfl⟩))
            | (go_at_call 20; ((with_reducible refine (HL2.out.go _).mono ?_); rintro e w' ⟨rfl, rfl⟩)))
          go_round
          case rel => exact ⟨N + 1, by omega, HN1.out, HLN.out, by rw [HN.out.1], by rw [HN.out.2], by rw [HS.out], by congr 1; omega⟩
          case measure => simp [intOf]; omega

theorem refBtw_gt (a b x : Int) (_hx : 0 ≤ x ∧ x ≤ 2153) (_h : b < a) (H1 : Pure 52 #[.int .i64 a] (.bool true)) (H2 : Pure 52 #[.int .i64 b] (.bool true)) (H3 : Pure 43 #[.int .i64 b, .int .i64 a] (.tuple #[.int .i64 x, .int .i64 0])) :
    Pure 43 #[.int .i64 a, .int .i64 b] (.tuple #[.int .i64 (-x), .int .i64 0]) := by
  intro w
  go_enter Tryd.func43, Tryd.ntmps43
  go_wp2_with (first
    | (go_at_call 52; ((with_reducible refine (H1.go _).mono ?_); rintro e w' ⟨rfl, rfl⟩))
    | (go_at_call 52; ((with_reducible refine (H2.go _).mono ?_); rintro e w' ⟨rfl, rfl⟩))
    | (go_at_call 43; ((with_reducible refine (H3.go _).mono ?_); rintro e w' ⟨rfl, rfl⟩)))
  go_ret2
  exact ⟨rfl, rfl⟩

theorem ref_btw_gt (a b : Int) (h0 : 0 ≤ b) (h : b < a) (h1 : a < 65536) : Pure 43 #[.int .i64 a, .int .i64 b] (.tuple #[.int .i64 (-Cal.whole b a), .int .i64 0]) :=
  refBtw_gt a b _ (Cal.whole_bd h0 (by omega) h1) h (ref_is a (by omega) h1) (ref_is b h0 (by omega)) (ref_btw_le b a h0 (by omega) h1)

set_option maxHeartbeats 1000000 in
theorem refBtw_a (a b : Int)
    (H1 : Pure 52 #[.int .i64 a] (.bool false)) :
    Pure 43 #[.int .i64 a, .int .i64 b] (.tuple #[.int .i64 0, .int .i64 2]) := by
  intro w
  go_enter Tryd.func43, Tryd.ntmps43
  go_wp2_with (first
    | (go_at_call 52; ((with_reducible refine (H1.go _).mono ?_); rintro e w' ⟨rfl, rfl⟩)))
  go_ret2
  exact ⟨rfl, rfl⟩

set_option maxHeartbeats 1000000 in
theorem refBtw_b (a b : Int)
    (H1 : Pure 52 #[.int .i64 a] (.bool true))
    (H2 : Pure 52 #[.int .i64 b] (.bool false)) :
    Pure 43 #[.int .i64 a, .int .i64 b] (.tuple #[.int .i64 0, .int .i64 2]) := by
  intro w
  go_enter Tryd.func43, Tryd.ntmps43
  go_wp2_with (first
    | (go_at_call 52; ((with_reducible refine (H1.go _).mono ?_); rintro e w' ⟨rfl, rfl⟩))
    | (go_at_call 52; ((with_reducible refine (H2.go _).mono ?_); rintro e w' ⟨rfl, rfl⟩)))
  go_ret2
  exact ⟨rfl, rfl⟩

set_option maxHeartbeats 1000000 in
theorem refAge_a (a b : Int)
    (H1 : Pure 52 #[.int .i64 a] (.bool false)) :
    Pure 44 #[.int .i64 a, .int .i64 b] (.tuple #[.int .i64 0, .int .i64 2]) := by
  intro w
  go_enter Tryd.func44, Tryd.ntmps44
  go_wp2_with (first
    | (go_at_call 52; ((with_reducible refine (H1.go _).mono ?_); rintro e w' ⟨rfl, rfl⟩)))
  go_ret2
  exact ⟨rfl, rfl⟩

set_option maxHeartbeats 1000000 in
theorem refAge_b (a b : Int)
    (H1 : Pure 52 #[.int .i64 a] (.bool true))
    (H2 : Pure 52 #[.int .i64 b] (.bool false)) :
    Pure 44 #[.int .i64 a, .int .i64 b] (.tuple #[.int .i64 0, .int .i64 2]) := by
  intro w
  go_enter Tryd.func44, Tryd.ntmps44
  go_wp2_with (first
    | (go_at_call 52; ((with_reducible refine (H1.go _).mono ?_); rintro e w' ⟨rfl, rfl⟩))
    | (go_at_call 52; ((with_reducible refine (H2.go _).mono ?_); rintro e w' ⟨rfl, rfl⟩)))
  go_ret2
  exact ⟨rfl, rfl⟩

set_option maxHeartbeats 1000000 in
theorem refAge_gt (a b : Int) (_h : b < a)
    (H1 : Pure 52 #[.int .i64 a] (.bool true))
    (H2 : Pure 52 #[.int .i64 b] (.bool true)) :
    Pure 44 #[.int .i64 a, .int .i64 b] (.tuple #[.int .i64 0, .int .i64 2]) := by
  intro w
  go_enter Tryd.func44, Tryd.ntmps44
  go_wp2_with (first
    | (go_at_call 52; ((with_reducible refine (H1.go _).mono ?_); rintro e w' ⟨rfl, rfl⟩))
    | (go_at_call 52; ((with_reducible refine (H2.go _).mono ?_); rintro e w' ⟨rfl, rfl⟩)))
  go_ret2
  exact ⟨rfl, rfl⟩

set_option maxHeartbeats 1000000 in
theorem refAge_le (a b x : Int) (_h : a ≤ b) (_hx : 0 ≤ x ∧ x ≤ 2153)
    (H1 : Pure 52 #[.int .i64 a] (.bool true))
    (H2 : Pure 52 #[.int .i64 b] (.bool true))
    (H3 : Pure 43 #[.int .i64 a, .int .i64 b] (.tuple #[.int .i64 x, .int .i64 0])) :
    Pure 44 #[.int .i64 a, .int .i64 b] (.tuple #[.int .i64 (x / 12), .int .i64 0]) := by
  intro w
  go_enter Tryd.func44, Tryd.ntmps44
  go_wp2_with (first
    | (go_at_call 52; ((with_reducible refine (H1.go _).mono ?_); rintro e w' ⟨rfl, rfl⟩))
    | (go_at_call 52; ((with_reducible refine (H2.go _).mono ?_); rintro e w' ⟨rfl, rfl⟩))
    | (go_at_call 43; ((with_reducible refine (H3.go _).mono ?_); rintro e w' ⟨rfl, rfl⟩)))
  go_ret2
  exact ⟨rfl, rfl⟩

set_option maxHeartbeats 1000000 in
theorem refMonth_0 (d : Int)
    (H1 : Pure 38 #[.int .i64 d] (.tuple #[.int .i64 0, .int .i64 0, .int .i64 0, .int .i64 2])) :
    Pure 39 #[.int .i64 d] (.tuple #[.int .i64 0, .int .i64 2]) := by
  intro w
  go_enter Tryd.func39, Tryd.ntmps39
  go_wp2_with (first
    | (go_at_call 38; ((with_reducible refine (H1.go _).mono ?_); rintro e w' ⟨rfl, rfl⟩)))
  go_ret2
  exact ⟨rfl, rfl⟩

set_option maxHeartbeats 1000000 in
theorem refMonth_1 (d Y M D : Int) (_hY : 1900 ≤ Y ∧ Y ≤ 2079) (_hM : 1 ≤ M ∧ M ≤ 12)
    (H1 : Pure 38 #[.int .i64 d] (.tuple #[.int .i64 Y, .int .i64 M, .int .i64 D, .int .i64 0])) :
    Pure 39 #[.int .i64 d] (.tuple #[.int .i64 (12 * (Y - 1900) + M - 1), .int .i64 0]) := by
  intro w
  go_enter Tryd.func39, Tryd.ntmps39
  go_wp2_with (first
    | (go_at_call 38; ((with_reducible refine (H1.go _).mono ?_); rintro e w' ⟨rfl, rfl⟩)))
  go_ret2
  exact ⟨rfl, rfl⟩

set_option maxHeartbeats 1000000 in
theorem refWeek_0 (d : Int)
    (H1 : Pure 52 #[.int .i64 d] (.bool false)) :
    Pure 40 #[.int .i64 d] (.tuple #[.int .i64 0, .int .i64 2]) := by
  intro w
  go_enter Tryd.func40, Tryd.ntmps40
  go_wp2_with (first
    | (go_at_call 52; ((with_reducible refine (H1.go _).mono ?_); rintro e w' ⟨rfl, rfl⟩)))
  go_ret2
  exact ⟨rfl, rfl⟩

set_option maxHeartbeats 1000000 in
theorem refWeek_1 (d : Int) (_h0 : 0 ≤ d) (_h1 : d < 65536)
    (H1 : Pure 52 #[.int .i64 d] (.bool true)) :
    Pure 40 #[.int .i64 d] (.tuple #[.int .i64 (d % 7 + 1), .int .i64 0]) := by
  intro w
  go_enter Tryd.func40, Tryd.ntmps40
  go_wp2_with (first
    | (go_at_call 52; ((with_reducible refine (H1.go _).mono ?_); rintro e w' ⟨rfl, rfl⟩)))
  go_ret2
  exact ⟨rfl, rfl⟩

set_option maxHeartbeats 1000000 in
theorem refFirst_lo (n : Int) (_h : n < 0) :
    Pure 26 #[.int .i64 n] (.tuple #[.int .i64 0, .int .i64 2]) := by
  intro w
  go_enter Tryd.func26, Tryd.ntmps26
  go_wp2
  go_ret2
  exact ⟨rfl, rfl⟩

set_option maxHeartbeats 1000000 in
theorem refFirst_hi (n : Int) (_h : 2153 < n) :
    Pure 26 #[.int .i64 n] (.tuple #[.int .i64 0, .int .i64 2]) := by
  intro w
  go_enter Tryd.func26, Tryd.ntmps26
  go_wp2
  go_ret2
  exact ⟨rfl, rfl⟩

set_option maxHeartbeats 1000000 in
theorem refFirst_1 (n s : Int) (_h0 : 0 ≤ n) (_h1 : n ≤ 2153)
    (H1 : Pure 16 #[.int .i64 (1900 + n / 12), .int .i64 (n % 12 + 1), .int .i64 1] (.tuple #[.int .i64 s, .int .i64 0])) :
    Pure 26 #[.int .i64 n] (.tuple #[.int .i64 s, .int .i64 0]) := by
  intro w
  go_enter Tryd.func26, Tryd.ntmps26
  go_wp2_with (first
    | (go_at_call 16; ((with_reducible refine (H1.go _).mono ?_); rintro e w' ⟨rfl, rfl⟩)))
  go_ret2
  exact ⟨rfl, rfl⟩

theorem ref_btw_no (a b : Int) (h : (a < 0 ∨ 65536 ≤ a) ∨ (b < 0 ∨ 65536 ≤ b)) : Pure 43 #[.int .i64 a, .int .i64 b] (.tuple #[.int .i64 0, .int .i64 2]) := by
  by_cases ha : a < 0 ∨ 65536 ≤ a
  · exact refBtw_a a b (ref_is_no a ha)
  · exact refBtw_b a b (ref_is a (by omega) (by omega)) (ref_is_no b (by omega))
theorem ref_age_no (a b : Int) (h : (a < 0 ∨ 65536 ≤ a) ∨ (b < 0 ∨ 65536 ≤ b)) : Pure 44 #[.int .i64 a, .int .i64 b] (.tuple #[.int .i64 0, .int .i64 2]) := by
  by_cases ha : a < 0 ∨ 65536 ≤ a
  · exact refAge_a a b (ref_is_no a ha)
  · exact refAge_b a b (ref_is a (by omega) (by omega)) (ref_is_no b (by omega))
theorem ref_age_gt (a b : Int) (h0 : 0 ≤ b) (h : b < a) (h1 : a < 65536) : Pure 44 #[.int .i64 a, .int .i64 b] (.tuple #[.int .i64 0, .int .i64 2]) :=
  refAge_gt a b h (ref_is a (by omega) h1) (ref_is b h0 (by omega))
theorem ref_age (a b : Int) (h0 : 0 ≤ a) (h : a ≤ b) (h1 : b < 65536) : Pure 44 #[.int .i64 a, .int .i64 b] (.tuple #[.int .i64 (Cal.whole a b / 12), .int .i64 0]) :=
  refAge_le a b _ h (Cal.whole_bd h0 h h1) (ref_is a h0 (by omega)) (ref_is b (by omega) h1) (ref_btw_le a b h0 h h1)
theorem ref_month_no (d : Int) (h : d < 0 ∨ 65536 ≤ d) : Pure 39 #[.int .i64 d] (.tuple #[.int .i64 0, .int .i64 2]) := refMonth_0 d (ref_ymd_no d h)
theorem ref_month (d : Int) (h0 : 0 ≤ d) (h1 : d < 65536) : Pure 39 #[.int .i64 d] (.tuple #[.int .i64 (Cal.mon d), .int .i64 0]) := by
  obtain ⟨p, p', _, _⟩ := Cal.mon_spec h0 h1
  have := refMonth_1 d _ _ _ (Cal.yr_bd p (by omega)) (Cal.mo_bd _) (ref_ymd d h0 h1)
  have hb := Cal.ym_back (Cal.mon d)
  rwa [show 12 * (Cal.yr (Cal.mon d) - 1900) + Cal.mo (Cal.mon d) - 1 = Cal.mon d by omega] at this
theorem ref_week_no (d : Int) (h : d < 0 ∨ 65536 ≤ d) : Pure 40 #[.int .i64 d] (.tuple #[.int .i64 0, .int .i64 2]) := refWeek_0 d (ref_is_no d h)
theorem ref_week (d : Int) (h0 : 0 ≤ d) (h1 : d < 65536) : Pure 40 #[.int .i64 d] (.tuple #[.int .i64 (d % 7 + 1), .int .i64 0]) := refWeek_1 d h0 h1 (ref_is d h0 h1)
theorem ref_first_no (n : Int) (h : n < 0 ∨ 2154 ≤ n) : Pure 26 #[.int .i64 n] (.tuple #[.int .i64 0, .int .i64 2]) := by
  rcases h with h | h
  · exact refFirst_lo n h
  · exact refFirst_hi n (by omega)
theorem ref_first (n : Int) (h0 : 0 ≤ n) (h1 : n < 2154) : Pure 26 #[.int .i64 n] (.tuple #[.int .i64 (Cal.start n), .int .i64 0]) := by
  have hy := Cal.yr_bd h0 (show n ≤ 2159 by omega)
  have hm := Cal.mo_bd n
  have hl := Cal.mlen_bd n
  have hs := Cal.start_le h0 (show n ≤ 2153 by omega)
  rw [Cal.start_2153] at hs
  have e : Cal.dayN (Cal.yr n) (Cal.mo n) 1 = Cal.start n := by unfold Cal.dayN; rw [Cal.start_ym]; omega
  refine refFirst_1 n _ h0 (by omega) (fun w => ?_)
  have := refDay_yes (Cal.yr n) (Cal.mo n) 1 (Cal.dateB_mk ⟨hy.1, hy.2, hm.1, hm.2, by omega, by rw [← Cal.mlen_ym]; omega, by rw [e]; omega⟩) w
  rwa [e] at this

end Go.Proofs.YtmjmpdbkijhkiaaDoor
