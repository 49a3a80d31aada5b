/-
'Add', 'wholeMonths', 'Between', 'Age'.
-/
import Derived.Test.YtmjmpdbkijhkiaaDoorCFuns
namespace Go.Proofs.YtmjmpdbkijhkiaaDoor
open Go.RowKit

theorem Add_no (day n : Int) (h : day < 0 ∨ 65536 ≤ day) {w0 w : World} (hS : St w0 w) :
    Calls Tryd.prog 32 #[.int .i64 day, .int .i64 n] w fun e w' => e = .returned (.tuple #[.int .i64 0, .int .i64 2]) ∧ St w0 w' := by
  have HS := Lib.hid hS
  have HY := Lib.hid (dates_no h)
  clear hS h
  go_enter Tryd.func32, Tryd.ntmps32
  go_wp2_with (go_at_call 37; refine (one_any _ _ _ (new_one _ _ _) false HY.out).mono ?_; rintro e w' ⟨rfl, rfl⟩)
  go_ret2
  exact ⟨rfl, HS.out.alloc _⟩

theorem Add_far (day n : Int) (h0 : 0 ≤ day) (h1 : day < 65536) (h : n < -Cal.mon day ∨ 2154 - Cal.mon day ≤ n) {w0 w : World} (hS : St w0 w) :
    Calls Tryd.prog 32 #[.int .i64 day, .int .i64 n] w fun e w' => e = .returned (.tuple #[.int .i64 0, .int .i64 30]) ∧ St w0 w' := by
  have HS := Lib.hid hS
  have HY := Lib.hid (dates_yes h0 h1)
  obtain ⟨m0, m1, _, _⟩ := Cal.mon_spec h0 h1
  clear hS
  rcases h with h | h
  · go_enter Tryd.func32, Tryd.ntmps32
    go_wp2_with (first
      | (go_at_call 37; refine (one_any _ _ _ (new_one _ _ _) true HY.out).mono ?_; rintro e w' ⟨rfl, rfl⟩)
      | (go_at_call 47; refine (split_st _ h0 h1 (HS.out.alloc _)).mono ?_; rintro e w1 ⟨rfl, hs⟩; have HS1 := Lib.hid hs; clear hs))
    go_ret2
    exact ⟨rfl, HS1.out⟩
  · have h' : ¬ n < -Cal.mon day := by omega
    go_enter Tryd.func32, Tryd.ntmps32
    go_wp2_with (first
      | (go_at_call 37; refine (one_any _ _ _ (new_one _ _ _) true HY.out).mono ?_; rintro e w' ⟨rfl, rfl⟩)
      | (go_at_call 47; refine (split_st _ h0 h1 (HS.out.alloc _)).mono ?_; rintro e w1 ⟨rfl, hs⟩; have HS1 := Lib.hid hs; clear hs))
    go_ret2
    exact ⟨rfl, HS1.out⟩

set_option maxHeartbeats 400000 in
theorem Add_near (day n : Int) (h0 : 0 ≤ day) (h1 : day < 65536) (hn1 : -Cal.mon day ≤ n) (hn2 : n < 2154 - Cal.mon day) (r : Bool) (hr : datesB [Cal.laterN day n] = r) (v : Value)
    (hv : v = if r = true then .tuple #[.int .i64 (Cal.laterN day n), .int .i64 0] else .tuple #[.int .i64 0, .int .i64 30]) {w0 w : World} (hS : St w0 w) :
    Calls Tryd.prog 32 #[.int .i64 day, .int .i64 n] w fun e w' => e = .returned v ∧ St w0 w' := by
  have HS := Lib.hid hS
  have HY := Lib.hid (dates_yes h0 h1)
  obtain ⟨m0, m1, _, _⟩ := Cal.mon_spec h0 h1
  have hd := Cal.dom_bd h0 h1
  have hd1 : 1 ≤ Cal.dom day ∧ Cal.dom day ≤ 31 := ⟨hd.1, hd.2.2⟩
  have hml := Cal.mlen_bd (Cal.mon day + n)
  have hsb := Cal.start_bd (n := Cal.mon day + n) (by omega) (by omega)
  have HM := Lib.hid (Cal.mlen_ym (Cal.mon day + n))
  have hmo := Cal.mo_bd (Cal.mon day + n)
  clear hS hd
  by_cases hmin : Cal.mlen (Cal.mon day + n) < Cal.dom day
  · have hL : Cal.laterN day n = Cal.start (Cal.mon day + n) + Cal.mlen (Cal.mon day + n) - 1 := by unfold Cal.laterN; omega
    rw [hL] at hr hv
    have HR := Lib.hid hr
    have HV := Lib.hid hv
    clear hr hv hL
    cases r
    all_goals
      go_enter Tryd.func32, Tryd.ntmps32
      go_wp2_with (first
        | (go_at_call 37; ((with_reducible refine (one_any _ _ _ (new_one _ _ _) true HY.out).mono ?_); rintro e w' ⟨rfl, rfl⟩))
        | (go_at_call 37; ((with_reducible refine (one_any _ _ _ (new_one _ _ _) _ HR.out).mono ?_); rintro e w' ⟨rfl, rfl⟩))
        | (go_at_call 47; refine (split_st _ h0 h1 (HS.out.alloc _)).mono ?_; rintro e w1 ⟨rfl, hs⟩; have HS1 := Lib.hid hs; clear hs)
        | (go_at_call 36; refine (start_any _ (by omega) (by omega) _ HS1.out.at).mono ?_; rintro e w' ⟨rfl, rfl⟩)
        | (go_at_call 48; refine (named_any _ (by omega) (by omega) _).mono ?_; rintro e w' ⟨rfl, rfl⟩)
        | (go_at_call 19; refine (Len_any _ _ (by omega) _ HS1.out.at).mono ?_; rintro e w' ⟨rfl, rfl⟩; rw [← HM.out]))
      go_ret2
      exact ⟨by rw [HV.out]; rfl, HS1.out.alloc _⟩
  · have hL : Cal.laterN day n = Cal.start (Cal.mon day + n) + Cal.dom day - 1 := by unfold Cal.laterN; omega
    rw [hL] at hr hv
    have HR := Lib.hid hr
    have HV := Lib.hid hv
    clear hr hv hL
    cases r
    all_goals
      go_enter Tryd.func32, Tryd.ntmps32
      go_wp2_with (first
        | (go_at_call 37; ((with_reducible refine (one_any _ _ _ (new_one _ _ _) true HY.out).mono ?_); rintro e w' ⟨rfl, rfl⟩))
        | (go_at_call 37; ((with_reducible refine (one_any _ _ _ (new_one _ _ _) _ HR.out).mono ?_); rintro e w' ⟨rfl, rfl⟩))
        | (go_at_call 47; refine (split_st _ h0 h1 (HS.out.alloc _)).mono ?_; rintro e w1 ⟨rfl, hs⟩; have HS1 := Lib.hid hs; clear hs)
        | (go_at_call 36; refine (start_any _ (by omega) (by omega) _ HS1.out.at).mono ?_; rintro e w' ⟨rfl, rfl⟩)
        | (go_at_call 48; refine (named_any _ (by omega) (by omega) _).mono ?_; rintro e w' ⟨rfl, rfl⟩)
        | (go_at_call 19; refine (Len_any _ _ (by omega) _ HS1.out.at).mono ?_; rintro e w' ⟨rfl, rfl⟩; rw [← HM.out]))
      go_ret2
      exact ⟨by rw [HV.out]; rfl, HS1.out.alloc _⟩

theorem Add_yes (day n : Int) (h0 : 0 ≤ day) (h1 : day < 65536) (h : Cal.laterB day n = true) {w0 w : World} (hS : St w0 w) :
    Calls Tryd.prog 32 #[.int .i64 day, .int .i64 n] w fun e w' => e = .returned (.tuple #[.int .i64 (Cal.laterN day n), .int .i64 0]) ∧ St w0 w' := by
  have h' := of_decide_eq_true h
  have hl := Cal.laterN_bd h0 h1 h'.1 h'.2.1
  exact Add_near day n h0 h1 h'.1 h'.2.1 true (dates_yes hl.1 h'.2.2) _ rfl hS

theorem Add_err (day n : Int) (h0 : 0 ≤ day) (h1 : day < 65536) (h : Cal.laterB day n = false) {w0 w : World} (hS : St w0 w) :
    Calls Tryd.prog 32 #[.int .i64 day, .int .i64 n] w fun e w' => e = .returned (.tuple #[.int .i64 0, .int .i64 30]) ∧ St w0 w' := by
  have h' := of_decide_eq_false h
  by_cases hn : n < -Cal.mon day ∨ 2154 - Cal.mon day ≤ n
  · exact Add_far day n h0 h1 hn hS
  · have hl : 65536 ≤ Cal.laterN day n := Int.not_lt.1 fun hh => h' ⟨by omega, by omega, hh⟩
    exact Add_near day n h0 h1 (by omega) (by omega) false (dates_no (.inr hl)) _ rfl hS

/-- The months and what 'Add' answers there. -/
theorem wholeMonths_any (a b : Int) (h0 : 0 ≤ a) (h : a ≤ b) (h1 : b < 65536) {w0 w : World} (hS : St w0 w) :
    Calls Tryd.prog 49 #[.int .i64 a, .int .i64 b] w fun e w' => e = .returned (.int .i64 (Cal.whole a b)) ∧ St w0 w' := by
  have HS := Lib.hid hS
  obtain ⟨m0, m1, _, _⟩ := Cal.mon_spec h0 (show a < 65536 by omega)
  obtain ⟨n0, n1, _, _⟩ := Cal.mon_spec (show 0 ≤ b by omega) h1
  have hmm := Cal.mon_mono h0 h h1
  clear hS
  rcases Bool.eq_false_or_eq_true (Cal.laterB a (Cal.mon b - Cal.mon a)) with hl | hl
  · have HA := Lib.hid (fun (w0 w : World) (g : St w0 w) => Add_yes a _ h0 (by omega) hl g)
    have hl' := of_decide_eq_true hl
    have hlb := Cal.laterN_bd h0 (show a < 65536 by omega) hl'.1 hl'.2.1
    have hlx : 0 ≤ Cal.laterN a (Cal.mon b - Cal.mon a) ∧ Cal.laterN a (Cal.mon b - Cal.mon a) < 65536 := ⟨hlb.1, hl'.2.2⟩
    by_cases hc : Cal.laterN a (Cal.mon b - Cal.mon a) ≤ b
    · have HW := Lib.hid (show Cal.whole a b = Cal.mon b - Cal.mon a by unfold Cal.whole; rw [if_pos ⟨hl, hc⟩])
      clear hl hl' hlb
      go_enter Tryd.func49, Tryd.ntmps49
      go_wp2_with (first
        | (go_at_call 47; ((with_reducible refine (split_st a h0 (by omega) HS.out).mono ?_); rintro e w1 ⟨rfl, hs⟩; have HS1 := Lib.hid hs; clear hs))
        | (go_at_call 47; refine (split_st b (by omega) h1 HS1.out).mono ?_; rintro e w2 ⟨rfl, hs⟩; have HS2 := Lib.hid hs; clear hs)
        | (go_at_call 32; refine (HA.out _ _ HS2.out).mono ?_; rintro e w3 ⟨rfl, hs⟩; have HS3 := Lib.hid hs; clear hs))
      go_ret
      exact ⟨by rw [HW.out]; rfl, HS3.out⟩
    · have HW := Lib.hid (show Cal.whole a b = Cal.mon b - Cal.mon a - 1 by unfold Cal.whole; rw [if_neg (fun hh => hc hh.2)])
      clear hl hl' hlb
      go_enter Tryd.func49, Tryd.ntmps49
      go_wp2_with (first
        | (go_at_call 47; ((with_reducible refine (split_st a h0 (by omega) HS.out).mono ?_); rintro e w1 ⟨rfl, hs⟩; have HS1 := Lib.hid hs; clear hs))
        | (go_at_call 47; refine (split_st b (by omega) h1 HS1.out).mono ?_; rintro e w2 ⟨rfl, hs⟩; have HS2 := Lib.hid hs; clear hs)
        | (go_at_call 32; refine (HA.out _ _ HS2.out).mono ?_; rintro e w3 ⟨rfl, hs⟩; have HS3 := Lib.hid hs; clear hs))
      go_ret
      exact ⟨by rw [HW.out]; rfl, HS3.out⟩
  · have HA := Lib.hid (fun (w0 w : World) (g : St w0 w) => Add_err a _ h0 (by omega) hl g)
    have HW := Lib.hid (show Cal.whole a b = Cal.mon b - Cal.mon a - 1 by unfold Cal.whole; rw [if_neg (fun hh => by rw [hl] at hh; exact absurd hh.1 (by decide))])
    clear hl
    go_enter Tryd.func49, Tryd.ntmps49
    go_wp2_with (first
      | (go_at_call 47; ((with_reducible refine (split_st a h0 (by omega) HS.out).mono ?_); rintro e w1 ⟨rfl, hs⟩; have HS1 := Lib.hid hs; clear hs))
      | (go_at_call 47; refine (split_st b (by omega) h1 HS1.out).mono ?_; rintro e w2 ⟨rfl, hs⟩; have HS2 := Lib.hid hs; clear hs)
      | (go_at_call 32; refine (HA.out _ _ HS2.out).mono ?_; rintro e w3 ⟨rfl, hs⟩; have HS3 := Lib.hid hs; clear hs))
    go_ret
    exact ⟨by rw [HW.out]; rfl, HS3.out⟩

theorem Between_le (a b : Int) (h0 : 0 ≤ a) (h : a ≤ b) (h1 : b < 65536) {w0 w : World} (hS : St w0 w) :
    Calls Tryd.prog 33 #[.int .i64 a, .int .i64 b] w fun e w' => e = .returned (.tuple #[.int .i64 (Cal.whole a b), .int .i64 0]) ∧ St w0 w' := by
  have HS := Lib.hid hS
  have HY := Lib.hid (dates2_yes h0 (show a < 65536 by omega) (show 0 ≤ b by omega) h1)
  have hw := Cal.whole_bd h0 h h1
  clear hS
  go_enter Tryd.func33, Tryd.ntmps33
  go_wp2_with (first
    | (go_at_call 37; refine (two_any _ _ _ _ (new_two0 _ _ _ _) (new_two _ _ _ _) true HY.out).mono ?_; rintro e w' ⟨rfl, rfl⟩)
    | (go_at_call 49; refine (wholeMonths_any a b h0 h h1 (HS.out.alloc _)).mono ?_; rintro e w1 ⟨rfl, hs⟩; have HS1 := Lib.hid hs; clear hs))
  go_ret2
  exact ⟨rfl, HS1.out⟩

theorem Between_gt (a b : Int) (h0 : 0 ≤ b) (h : b < a) (h1 : a < 65536) {w0 w : World} (hS : St w0 w) :
    Calls Tryd.prog 33 #[.int .i64 a, .int .i64 b] w fun e w' => e = .returned (.tuple #[.int .i64 (-Cal.whole b a), .int .i64 0]) ∧ St w0 w' := by
  have HS := Lib.hid hS
  have HY := Lib.hid (dates2_yes (show 0 ≤ a by omega) h1 h0 (show b < 65536 by omega))
  have hw := Cal.whole_bd h0 (show b ≤ a by omega) h1
  clear hS
  go_enter Tryd.func33, Tryd.ntmps33
  go_wp2_with (first
    | (go_at_call 37; refine (two_any _ _ _ _ (new_two0 _ _ _ _) (new_two _ _ _ _) true HY.out).mono ?_; rintro e w' ⟨rfl, rfl⟩)
    | (go_at_call 49; refine (wholeMonths_any b a h0 (by omega) h1 (HS.out.alloc _)).mono ?_; rintro e w1 ⟨rfl, hs⟩; have HS1 := Lib.hid hs; clear hs))
  go_ret2
  exact ⟨rfl, HS1.out⟩

theorem Between_no (a b : Int) (h : (a < 0 ∨ 65536 ≤ a) ∨ (b < 0 ∨ 65536 ≤ b)) {w0 w : World} (hS : St w0 w) :
    Calls Tryd.prog 33 #[.int .i64 a, .int .i64 b] w fun e w' => e = .returned (.tuple #[.int .i64 0, .int .i64 2]) ∧ St w0 w' := by
  have HS := Lib.hid hS
  have HY := Lib.hid (dates2_no h)
  clear hS h
  go_enter Tryd.func33, Tryd.ntmps33
  go_wp2_with (go_at_call 37; refine (two_any _ _ _ _ (new_two0 _ _ _ _) (new_two _ _ _ _) false HY.out).mono ?_; rintro e w' ⟨rfl, rfl⟩)
  go_ret2
  exact ⟨rfl, HS.out.alloc _⟩

theorem Age_yes (a b : Int) (h0 : 0 ≤ a) (h : a ≤ b) (h1 : b < 65536) {w0 w : World} (hS : St w0 w) :
    Calls Tryd.prog 34 #[.int .i64 a, .int .i64 b] w fun e w' => e = .returned (.tuple #[.int .i64 (Cal.whole a b / 12), .int .i64 0]) ∧ St w0 w' := by
  have HS := Lib.hid hS
  have HY := Lib.hid (dates2_yes h0 (show a < 65536 by omega) (show 0 ≤ b by omega) h1)
  have hw := Cal.whole_bd h0 h h1
  clear hS
  go_enter Tryd.func34, Tryd.ntmps34
  go_wp2_with (first
    | (go_at_call 37; refine (two_any _ _ _ _ (new_two0 _ _ _ _) (new_two _ _ _ _) true HY.out).mono ?_; rintro e w' ⟨rfl, rfl⟩)
    | (go_at_call 49; refine (wholeMonths_any a b h0 h h1 (HS.out.alloc _)).mono ?_; rintro e w1 ⟨rfl, hs⟩; have HS1 := Lib.hid hs; clear hs))
  go_ret2
  exact ⟨rfl, HS1.out⟩

theorem Age_no (a b : Int) (h : (a < 0 ∨ 65536 ≤ a) ∨ (b < 0 ∨ 65536 ≤ b)) {w0 w : World} (hS : St w0 w) :
    Calls Tryd.prog 34 #[.int .i64 a, .int .i64 b] w fun e w' => e = .returned (.tuple #[.int .i64 0, .int .i64 2]) ∧ St w0 w' := by
  have HS := Lib.hid hS
  have HY := Lib.hid (dates2_no h)
  clear hS h
  go_enter Tryd.func34, Tryd.ntmps34
  go_wp2_with (go_at_call 37; refine (two_any _ _ _ _ (new_two0 _ _ _ _) (new_two _ _ _ _) false HY.out).mono ?_; rintro e w' ⟨rfl, rfl⟩)
  go_ret2
  exact ⟨rfl, HS.out.alloc _⟩

theorem Age_gt (a b : Int) (h0 : 0 ≤ b) (h : b < a) (h1 : a < 65536) {w0 w : World} (hS : St w0 w) :
    Calls Tryd.prog 34 #[.int .i64 a, .int .i64 b] w fun e w' => e = .returned (.tuple #[.int .i64 0, .int .i64 2]) ∧ St w0 w' := by
  have HS := Lib.hid hS
  have HY := Lib.hid (dates2_yes (show 0 ≤ a by omega) h1 h0 (show b < 65536 by omega))
  clear hS
  go_enter Tryd.func34, Tryd.ntmps34
  go_wp2_with (go_at_call 37; refine (two_any _ _ _ _ (new_two0 _ _ _ _) (new_two _ _ _ _) true HY.out).mono ?_; rintro e w' ⟨rfl, rfl⟩)
  go_ret2
  exact ⟨rfl, HS.out.alloc _⟩

end Go.Proofs.YtmjmpdbkijhkiaaDoor
