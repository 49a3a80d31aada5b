/-
'Day', 'YMD', 'Add', 'wholeMonths', 'Between', 'Age', 'Month', 'First', 'Weekday'.
-/
import Derived.Test.YtmjmpdbkijhkiaaDoorCSplit
namespace Go.Proofs.YtmjmpdbkijhkiaaDoor
open Go.RowKit

theorem one_any (d : Int) (B : Nat) (w : World) (hc : w.cell? ⟨B, 0, none⟩ = some (.int .i64 d)) (r : Bool) (hr : datesB [d] = r) :
    Calls Tryd.prog 37 #[.slice (some ⟨B, 0, none⟩) 1 1] w fun e w' => e = .returned (.bool r) ∧ w = w' := by
  have := areDates_any B [d] (by simp) w (fun j hj => by
    obtain rfl : j = 0 := by simp at hj; omega
    exact hc)
  rw [hr] at this
  exact this

theorem dates_yes {d : Int} (h0 : 0 ≤ d) (h1 : d < 65536) : datesB [d] = true := by simp [datesB, h0, h1]
theorem dates_no {d : Int} (h : d < 0 ∨ 65536 ≤ d) : datesB [d] = false := by
  rw [Bool.eq_false_iff]; simp [datesB]; omega

theorem two_any (c d : Int) (B : Nat) (w : World) (hc : w.cell? ⟨B, 0, none⟩ = some (.int .i64 c)) (hd : w.cell? ⟨B, 1, none⟩ = some (.int .i64 d)) (r : Bool) (hr : datesB [c, d] = r) :
    Calls Tryd.prog 37 #[.slice (some ⟨B, 0, none⟩) 2 2] w fun e w' => e = .returned (.bool r) ∧ w = w' := by
  have := areDates_any B [c, d] (by simp) w (fun j hj => by
    match j, hj with
    | 0, _ => exact hc
    | 1, _ => exact hd)
  rw [hr] at this
  exact this

theorem dates2_yes {c d : Int} (h0 : 0 ≤ c) (h1 : c < 65536) (h2 : 0 ≤ d) (h3 : d < 65536) : datesB [c, d] = true := by simp [datesB, h0, h1, h2, h3]
theorem dates2_no {c d : Int} (h : (c < 0 ∨ 65536 ≤ c) ∨ (d < 0 ∨ 65536 ≤ d)) : datesB [c, d] = false := by
  rw [Bool.eq_false_iff]; simp [datesB]; omega

theorem new_one (w : World) (v : Value) (T : TypeId) : (w.alloc (.cells #[v] T)).cell? ⟨w.heap.size, 0, none⟩ = some v := by
  rw [World.cell?_alloc_at _ _ _ _ rfl]; rfl
theorem new_two (w : World) (v u : Value) (T : TypeId) : (w.alloc (.cells #[v, u] T)).cell? ⟨w.heap.size, 1, none⟩ = some u := by
  rw [World.cell?_alloc_at _ _ _ _ rfl]; rfl
theorem new_two0 (w : World) (v u : Value) (T : TypeId) : (w.alloc (.cells #[v, u] T)).cell? ⟨w.heap.size, 0, none⟩ = some v := by
  rw [World.cell?_alloc_at _ _ _ _ rfl]; rfl

theorem results_tmp4 {fn : Func} {t u v x : Tmp} (h : fn.results = #[.tmp t, .tmp u, .tmp v, .tmp x]) (tmps : Array Value) (P : Program) (w : World) :
    (results fn tmps).run P w = .ok (.tuple #[tmps.getD t undef, tmps.getD u undef, tmps.getD v undef, tmps.getD x undef]) w := by
  simp [results, h]

abbrev I64 (n : Int) : Prop := -9223372036854775808 ≤ n ∧ n ≤ 9223372036854775807

theorem Day_yes (y m d : Int) (h : Cal.dateB y m d = true) {w0 w : World} (hS : St w0 w) :
    Calls Tryd.prog 15 #[.int .i64 y, .int .i64 m, .int .i64 d] w fun e w' => e = .returned (.tuple #[.int .i64 (Cal.dayN y m d), .int .i64 0]) ∧ St w0 w' := by
  obtain ⟨a, b, c, f, g, k, l, p⟩ := Cal.date_bd h
  have HS := Lib.hid hS
  have HT := Lib.hid (Cal.start_of (y := y) (m := m) c f)
  have hb := Cal.dby_bd y a b
  have hc := Cal.cum_bd y m
  have hl := Cal.len_bd y m
  have HE := Lib.hid (show Cal.dby y + Cal.cum y m + d - 1 = Cal.dayN y m d from rfl)
  have HY := Lib.hid (dates_yes l p)
  rw [← HE.out] at HY
  clear hS h l p
  go_enter Tryd.func15, Tryd.ntmps15
  go_wp2_with (first
    | (go_at_call 19; refine (Len_any _ _ (by omega) _ HS.out.at).mono ?_; rintro e w' ⟨rfl, rfl⟩)
    | (go_at_call 36; refine (start_any _ (by omega) (by omega) _ HS.out.at).mono ?_; rintro e w' ⟨rfl, rfl⟩; rw [HT.out])
    | (go_at_call 37; refine (one_any _ _ _ (new_one _ _ _) true HY.out).mono ?_; rintro e w' ⟨rfl, rfl⟩))
  go_ret2
  exact ⟨rfl, HS.out.alloc _⟩

theorem Day_no (y m d : Int) (hm : I64 m) (h : Cal.dateB y m d = false) {w0 w : World} (hS : St w0 w) :
    Calls Tryd.prog 15 #[.int .i64 y, .int .i64 m, .int .i64 d] w fun e w' => e = .returned (.tuple #[.int .i64 0, .int .i64 2]) ∧ St w0 w' := by
  have h' := of_decide_eq_false h
  have HS := Lib.hid hS
  clear hS h
  by_cases h1 : y < 1900
  · clear h'
    go_enter Tryd.func15, Tryd.ntmps15
    go_wp2
    go_ret2
    exact ⟨rfl, HS.out⟩
  · by_cases h2 : 2079 < y
    · clear h'
      go_enter Tryd.func15, Tryd.ntmps15
      go_wp2
      go_ret2
      exact ⟨rfl, HS.out⟩
    · by_cases h3 : d < 1
      · clear h'
        go_enter Tryd.func15, Tryd.ntmps15
        go_wp2
        go_ret2
        exact ⟨rfl, HS.out⟩
      · have hl := Cal.len_bd y m
        by_cases h4 : Cal.len y m < d
        · clear h'
          go_enter Tryd.func15, Tryd.ntmps15
          go_wp2_with (go_at_call 19; refine (Len_any _ _ hm _ HS.out.at).mono ?_; rintro e w' ⟨rfl, rfl⟩)
          go_ret2
          exact ⟨rfl, HS.out⟩
        · have hm12 : 1 ≤ m ∧ m ≤ 12 := by
            by_cases hh : m < 1 ∨ 12 < m
            · have := Cal.len_out y m hh; omega
            · omega
          have hn : 65536 ≤ Cal.dayN y m d := Int.not_lt.1 fun hh => h' ⟨by omega, by omega, hm12.1, hm12.2, by omega, by omega, hh⟩
          have HT := Lib.hid (Cal.start_of (y := y) (m := m) hm12.1 hm12.2)
          have hb := Cal.dby_bd y (by omega) (by omega)
          have hc := Cal.cum_bd y m
          have HE := Lib.hid (show Cal.dby y + Cal.cum y m + d - 1 = Cal.dayN y m d from rfl)
          have HY := Lib.hid (dates_no (.inr hn))
          rw [← HE.out] at HY
          clear h' hn
          go_enter Tryd.func15, Tryd.ntmps15
          go_wp2_with (first
            | (go_at_call 19; refine (Len_any _ _ (by omega) _ HS.out.at).mono ?_; rintro e w' ⟨rfl, rfl⟩)
            | (go_at_call 36; refine (start_any _ (by omega) (by omega) _ HS.out.at).mono ?_; rintro e w' ⟨rfl, rfl⟩; rw [HT.out])
            | (go_at_call 37; refine (one_any _ _ _ (new_one _ _ _) false HY.out).mono ?_; rintro e w' ⟨rfl, rfl⟩))
          go_ret2
          exact ⟨rfl, HS.out.alloc _⟩

theorem split_st (day : Int) (h0 : 0 ≤ day) (h1 : day < 65536) {w0 w : World} (hS : St w0 w) :
    Calls Tryd.prog 47 #[.int .i64 day] w fun e w' => e = .returned (.tuple #[.int .i64 (Cal.mon day), .int .i64 (Cal.dom day)]) ∧ St w0 w' :=
  (split_any day h0 h1 w hS.at).mono fun _ _ ⟨he, hw⟩ => ⟨he, hS.trans hw⟩

theorem YMD_yes (day : Int) (h0 : 0 ≤ day) (h1 : day < 65536) {w0 w : World} (hS : St w0 w) :
    Calls Tryd.prog 28 #[.int .i64 day] w fun e w' => e = .returned (.tuple #[.int .i64 (Cal.yr (Cal.mon day)), .int .i64 (Cal.mo (Cal.mon day)), .int .i64 (Cal.dom day), .int .i64 0]) ∧ St w0 w' := by
  have HS := Lib.hid hS
  have HY := Lib.hid (dates_yes h0 h1)
  obtain ⟨m0, m1, _, _⟩ := Cal.mon_spec h0 h1
  clear hS
  go_enter Tryd.func28, Tryd.ntmps28
  go_wp2_with (first
    | (go_at_call 37; refine (one_any _ _ _ (new_one _ _ _) true HY.out).mono ?_; rintro e w' ⟨rfl, rfl⟩)
    | (go_at_call 47; refine (split_st _ h0 h1 (HS.out.alloc _)).mono ?_; rintro e w1 ⟨rfl, hs⟩; have HS1 := Lib.hid hs; clear hs)
    | (go_at_call 48; refine (named_any _ m0 (by omega) _).mono ?_; rintro e w' ⟨rfl, rfl⟩))
  refine bodyPost_ret (results_tmp4 rfl _ _ _) rfl ?_
  exact ⟨rfl, HS1.out⟩

theorem YMD_no (day : Int) (h : day < 0 ∨ 65536 ≤ day) {w0 w : World} (hS : St w0 w) :
    Calls Tryd.prog 28 #[.int .i64 day] w fun e w' => e = .returned (.tuple #[.int .i64 0, .int .i64 0, .int .i64 0, .int .i64 2]) ∧ St w0 w' := by
  have HS := Lib.hid hS
  have HY := Lib.hid (dates_no h)
  clear hS h
  go_enter Tryd.func28, Tryd.ntmps28
  go_wp2_with (go_at_call 37; refine (one_any _ _ _ (new_one _ _ _) false HY.out).mono ?_; rintro e w' ⟨rfl, rfl⟩)
  refine bodyPost_ret (results_tmp4 rfl _ _ _) rfl ?_
  exact ⟨rfl, HS.out.alloc _⟩

theorem Month_yes (day : Int) (h0 : 0 ≤ day) (h1 : day < 65536) {w0 w : World} (hS : St w0 w) :
    Calls Tryd.prog 30 #[.int .i64 day] w fun e w' => e = .returned (.tuple #[.int .i64 (Cal.mon day), .int .i64 0]) ∧ St w0 w' := by
  have HS := Lib.hid hS
  have HY := Lib.hid (dates_yes h0 h1)
  clear hS
  go_enter Tryd.func30, Tryd.ntmps30
  go_wp2_with (first
    | (go_at_call 37; refine (one_any _ _ _ (new_one _ _ _) true HY.out).mono ?_; rintro e w' ⟨rfl, rfl⟩)
    | (go_at_call 47; refine (split_st _ h0 h1 (HS.out.alloc _)).mono ?_; rintro e w1 ⟨rfl, hs⟩; have HS1 := Lib.hid hs; clear hs))
  go_ret2
  exact ⟨rfl, HS1.out⟩

theorem Month_no (day : Int) (h : day < 0 ∨ 65536 ≤ day) {w0 w : World} (hS : St w0 w) :
    Calls Tryd.prog 30 #[.int .i64 day] w fun e w' => e = .returned (.tuple #[.int .i64 0, .int .i64 2]) ∧ St w0 w' := by
  have HS := Lib.hid hS
  have HY := Lib.hid (dates_no h)
  clear hS h
  go_enter Tryd.func30, Tryd.ntmps30
  go_wp2_with (go_at_call 37; refine (one_any _ _ _ (new_one _ _ _) false HY.out).mono ?_; rintro e w' ⟨rfl, rfl⟩)
  go_ret2
  exact ⟨rfl, HS.out.alloc _⟩

theorem Weekday_yes (day : Int) (h0 : 0 ≤ day) (h1 : day < 65536) {w0 w : World} (hS : St w0 w) :
    Calls Tryd.prog 29 #[.int .i64 day] w fun e w' => e = .returned (.tuple #[.int .i64 (day % 7 + 1), .int .i64 0]) ∧ St w0 w' := by
  have HS := Lib.hid hS
  have HY := Lib.hid (dates_yes h0 h1)
  clear hS
  go_enter Tryd.func29, Tryd.ntmps29
  go_wp2_with (go_at_call 37; refine (one_any _ _ _ (new_one _ _ _) true HY.out).mono ?_; rintro e w' ⟨rfl, rfl⟩)
  go_ret2
  exact ⟨rfl, HS.out.alloc _⟩

theorem Weekday_no (day : Int) (h : day < 0 ∨ 65536 ≤ day) {w0 w : World} (hS : St w0 w) :
    Calls Tryd.prog 29 #[.int .i64 day] w fun e w' => e = .returned (.tuple #[.int .i64 0, .int .i64 2]) ∧ St w0 w' := by
  have HS := Lib.hid hS
  have HY := Lib.hid (dates_no h)
  clear hS h
  go_enter Tryd.func29, Tryd.ntmps29
  go_wp2_with (go_at_call 37; refine (one_any _ _ _ (new_one _ _ _) false HY.out).mono ?_; rintro e w' ⟨rfl, rfl⟩)
  go_ret2
  exact ⟨rfl, HS.out.alloc _⟩

theorem First_yes (n : Int) (h0 : 0 ≤ n) (h1 : n < 2154) {w0 w : World} (hS : St w0 w) :
    Calls Tryd.prog 31 #[.int .i64 n] w fun e w' => e = .returned (.tuple #[.int .i64 (Cal.start n), .int .i64 0]) ∧ St w0 w' := by
  have HS := Lib.hid hS
  clear hS
  go_enter Tryd.func31, Tryd.ntmps31
  go_wp2_with (go_at_call 36; refine (start_any _ h0 (by omega) _ HS.out.at).mono ?_; rintro e w' ⟨rfl, rfl⟩)
  go_ret2
  exact ⟨rfl, HS.out⟩

theorem First_no (n : Int) (h : n < 0 ∨ 2154 ≤ n) {w0 w : World} (hS : St w0 w) :
    Calls Tryd.prog 31 #[.int .i64 n] w fun e w' => e = .returned (.tuple #[.int .i64 0, .int .i64 2]) ∧ St w0 w' := by
  have HS := Lib.hid hS
  clear hS
  rcases h with h | h
  · go_enter Tryd.func31, Tryd.ntmps31
    go_wp2
    go_ret2
    exact ⟨rfl, HS.out⟩
  · have h' : ¬ n < 0 := by omega
    go_enter Tryd.func31, Tryd.ntmps31
    go_wp2
    go_ret2
    exact ⟨rfl, HS.out⟩

end Go.Proofs.YtmjmpdbkijhkiaaDoor
