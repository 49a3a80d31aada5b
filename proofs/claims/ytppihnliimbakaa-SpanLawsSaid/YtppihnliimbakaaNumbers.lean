/-
'SpanNumbers': Before and Nth are inverse to each other.
-/
import Derived.Test.YtppihnliimbakaaBuilt
namespace Go.Proofs.Ytppihnliimbakaa
open Go.RowKit Go.Shelf Sp

theorem spn_slice {W : World} {v : Value} {l : L} (h : Spn W v l) : ∃ a cap, v = .slice a l.length cap := by obtain ⟨a, cap, e, _⟩ := h; exact ⟨a, cap, e⟩

theorem Pick_any (x n : Int) (hn : 1 ≤ n) (hn2 : n ≤ 1000000000) (w : World) : Calls Try.prog 27 #[.int .i64 x, .int .i64 n] w (Says (.int .i64 (x % n)) w) := by
  have hb : -n < x.tmod n ∧ x.tmod n < n := ⟨Int.lt_tmod_of_pos _ (by omega), Int.tmod_lt_of_pos _ (by omega)⟩
  have hz : n ≠ 0 := by omega
  have hz' : ¬ n = 0 := hz
  have hn1 : ¬ n < 1 := by omega
  have h1 := Int.emod_nonneg x hz
  have h2 := Int.emod_lt_of_pos x (show 0 < n by omega)
  have h3 := Int.tmod_add_mul_tdiv x n
  have h4 := Int.emod_add_mul_ediv x n
  have h5 : x.tmod n + n = x % n + n * (x / n - x.tdiv n + 1) := by rw [Int.mul_add, Int.mul_sub]; omega
  have h6 : x.tmod n = x % n + n * (x / n - x.tdiv n) := by rw [Int.mul_sub]; omega
  by_cases h : x.tmod n < 0
  · have HE := Lib.hid (show x % n = x.tmod n + n by
      have a1 : x / n - x.tdiv n + 1 < 1 := Int.lt_of_mul_lt_mul_left (a := n) (by omega) (by omega)
      have a2 : -1 < x / n - x.tdiv n + 1 := Int.lt_of_mul_lt_mul_left (a := n) (by omega) (by omega)
      have : x / n - x.tdiv n + 1 = 0 := by omega
      rw [this] at h5
      omega)
    clear h1 h2 h3 h4 h5 h6
    go_enter Try.func27, Try.ntmps27
    go_wp2
    go_ret
    exact ⟨by rw [HE.out]; rfl, Below.refl _ _⟩
  · have HE := Lib.hid (show x % n = x.tmod n by
      have a1 : x / n - x.tdiv n < 1 := Int.lt_of_mul_lt_mul_left (a := n) (by omega) (by omega)
      have a2 : -1 < x / n - x.tdiv n := Int.lt_of_mul_lt_mul_left (a := n) (by omega) (by omega)
      have : x / n - x.tdiv n = 0 := by omega
      rw [this] at h6
      omega)
    clear h1 h2 h3 h4 h5 h6
    go_enter Try.func27, Try.ntmps27
    go_wp2
    go_ret
    exact ⟨by rw [HE.out]; rfl, Below.refl _ _⟩

def minI : Int := -9223372036854775808
def maxI : Int := 9223372036854775807
theorem Nth_so {v : Value} {l : L} {n d : Int} {w : World} (h0 : 0 ≤ n) (h9 : n ≤ 65538) (hl : IsSet l) (hr : nthO l n = some d) (h : Spn w v l) : Calls Try.prog 28 #[v, .int .i64 n] w (Says (.tuple #[.int .i64 d, .bool true]) w) := by
  have := Nth_yes v l n h0 (by omega) hl w h
  rwa [hr] at this
theorem Nth_no' {v : Value} {l : L} {n : Int} {w : World} (h0 : 0 ≤ n) (h9 : n ≤ 65538) (hl : IsSet l) (hr : nthO l n = none) (h : Spn w v l) : Calls Try.prog 28 #[v, .int .i64 n] w (Says (.tuple #[.int .i64 0, .bool false]) w) := by
  have := Nth_yes v l n h0 (by omega) hl w h
  rwa [hr] at this
theorem Before_is {v : Value} {l : L} {d r : Int} {w : World} (hd : -9223372036854775808 ≤ d ∧ d ≤ 9223372036854775807) (hl : IsSet l) (hr : beforeN l d = r) (h : Spn w v l) : Calls Try.prog 29 #[v, .int .i64 d] w (Says (.int .i64 r) w) := by
  have := Before_yes v l d hd hl w h
  rwa [hr] at this
theorem Days_is {v : Value} {l : L} {r : Int} {w : World} (hl : IsSet l) (hr : beforeN l 65536 = r) (h : Spn w v l) : Calls Try.prog 22 #[v] w (Says (.int .i64 r) w) := by
  have := Days_yes v l hl w h
  rwa [hr] at this
theorem Has_is {v : Value} {l : L} {d : Int} {r : Bool} {w : World} (hl : IsSet l) (hr : memB l d = r) (h : Spn w v l) : Calls Try.prog 21 #[v, .int .i64 d] w (Says (.bool r) w) := by
  have := Has_yes v l d hl w h
  rwa [hr] at this

set_option maxRecDepth 100000 in
set_option maxHeartbeats 40000000 in
theorem SpanNumbers_walk (s : Value) (m : List Nat) (n day : Int) (hd : -9223372036854775808 ≤ day ∧ day ≤ 9223372036854775807) (w : World) (hm : Lm m) (h : Lim w s m) :
    Calls Try.prog 8 #[s, .int .i64 n, .int .i64 day] w (Says (.bool true) w) := by
  have HB := Lib.hid (Below.refl w.heap.size w)
  have HM := Lib.hid hm
  have HI := Lib.hid h
  have HD := Lib.hid hd
  obtain ⟨aa, cc, rfl, -⟩ := h
  clear hm hd
  go_enter Try.func8, Try.ntmps8
  go_wp2_with fail
  refine (awake_any _).mono ?_
  rintro e w1 ⟨rfl, hb⟩
  replace HB := Lib.hid (HB.out.trans (hb.mono HB.out.size))
  clear hb
  go_wp2_with fail
  refine (Built_any _ _ HM.out w1 (HI.out.below HB.out (Nat.le_refl _))).mono ?_
  rintro e w2 ⟨⟨vl, ll, rfl, hset, h60, hown⟩, hb⟩
  replace HB := Lib.hid (HB.out.trans (hb.mono HB.out.size))
  have HSl := Lib.hid hset
  have Hl := Lib.hid (Spn.of_owns hown (by omega))
  have HLl := Lib.hid h60
  clear hset hown h60
  clear hb
  obtain ⟨al, cl, rfl⟩ := spn_slice Hl.out
  obtain ⟨A, hA⟩ : ∃ A, beforeN ll 65536 = A := ⟨_, rfl⟩
  have hA2 := beforeN_bd HSl.out 65536
  rw [hA] at hA2
  obtain ⟨A0, A1⟩ := hA2
  have HAA := Lib.hid hA
  clear hA
  go_wp2_with fail
  refine (Days_is HSl.out HAA.out Hl.out).mono ?_
  rintro e w3 ⟨rfl, hb⟩
  replace Hl := Lib.hid (Hl.out.below hb (Nat.le_refl _))
  replace HB := Lib.hid (HB.out.trans (hb.mono HB.out.size))
  clear hb
  go_wp2_with fail
  refine (Pick_any n (A + 2) (by omega) (by omega) _).mono ?_
  rintro e w4 ⟨rfl, hb⟩
  replace Hl := Lib.hid (Hl.out.below hb (Nat.le_refl _))
  replace HB := Lib.hid (HB.out.trans (hb.mono HB.out.size))
  clear hb
  obtain ⟨k, hk⟩ : ∃ k, n % (A + 2) = k := ⟨_, rfl⟩
  have k0 : 0 ≤ k := by rw [← hk]; exact Int.emod_nonneg _ (by omega)
  have k1 : k < A + 2 := by rw [← hk]; exact Int.emod_lt_of_pos _ (by omega)
  rw [hk]
  clear hk
  obtain ⟨B, hB⟩ : ∃ B, beforeN ll day = B := ⟨_, rfl⟩
  have hB2 := beforeN_bd HSl.out day
  rw [hB] at hB2
  obtain ⟨B0, B1⟩ := hB2
  have HBB := Lib.hid hB
  clear hB
  have Z0 := Lib.hid (beforeN_zero HSl.out (d := 0) (by omega))
  have Z1 := Lib.hid (beforeN_zero HSl.out (d := -9223372036854775808) (by omega))
  have Z2 := Lib.hid ((beforeN_all HSl.out (d := 9223372036854775807) (by omega)).trans ((beforeN_all HSl.out (d := 65536) (by omega)).symm.trans HAA.out))
  cases hno : nthO ll k with
  | some d =>
    have HN := Lib.hid hno
    have hx := nthO_some HSl.out k0 hno
    have kA : k < A := by have := beforeN_lt HSl.out hx.1 (HSl.out.hi hx.1); have := HAA.out; omega
    have HK := Lib.hid hx.2
    have HMM := Lib.hid ((memB_iff _ _).2 hx.1)
    have d1 := HSl.out.lo hx.1
    have d2 := HSl.out.hi hx.1
    clear hno hx
    go_wp2_with fail
    refine (Nth_so k0 (by omega) HSl.out HN.out Hl.out).mono ?_
    rintro e w5 ⟨rfl, hb⟩
    replace Hl := Lib.hid (Hl.out.below hb (Nat.le_refl _))
    replace HB := Lib.hid (HB.out.trans (hb.mono HB.out.size))
    clear hb
    go_wp2_with fail
    refine (Before_is (by omega) HSl.out HK.out Hl.out).mono ?_
    rintro e w6 ⟨rfl, hb⟩
    replace Hl := Lib.hid (Hl.out.below hb (Nat.le_refl _))
    replace HB := Lib.hid (HB.out.trans (hb.mono HB.out.size))
    clear hb
    have q0 : (k != k) = false := by simp
    go_wp2_with fail
    refine (Has_is HSl.out HMM.out Hl.out).mono ?_
    rintro e w7 ⟨rfl, hb⟩
    replace Hl := Lib.hid (Hl.out.below hb (Nat.le_refl _))
    replace HB := Lib.hid (HB.out.trans (hb.mono HB.out.size))
    clear hb
    go_wp2_with fail
    refine (Before_is HD.out HSl.out HBB.out Hl.out).mono ?_
    rintro e w8 ⟨rfl, hb⟩
    replace Hl := Lib.hid (Hl.out.below hb (Nat.le_refl _))
    replace HB := Lib.hid (HB.out.trans (hb.mono HB.out.size))
    clear hb
    rcases Bool.eq_false_or_eq_true (memB ll day) with hmd | hmd
    · have HN := Lib.hid (show nthO ll B = some day by rw [← HBB.out]; exact nthO_before HSl.out ((memB_iff _ _).1 hmd))
      have HMD := Lib.hid hmd
      clear hmd
      have q1 : (day != day) = false := by simp
      go_wp2_with fail
      refine (Nth_so B0 (by omega) HSl.out HN.out Hl.out).mono ?_
      rintro e w9 ⟨rfl, hb⟩
      replace Hl := Lib.hid (Hl.out.below hb (Nat.le_refl _))
      replace HB := Lib.hid (HB.out.trans (hb.mono HB.out.size))
      clear hb
      go_wp2_with fail
      refine (Has_is HSl.out HMD.out Hl.out).mono ?_
      rintro e w10 ⟨rfl, hb⟩
      replace Hl := Lib.hid (Hl.out.below hb (Nat.le_refl _))
      replace HB := Lib.hid (HB.out.trans (hb.mono HB.out.size))
      clear hb
      go_wp2_with fail
      refine (Nth_no _ _ (-1) (.inr (by omega)) _ Hl.out).mono ?_
      rintro e w11 ⟨rfl, hb⟩
      replace Hl := Lib.hid (Hl.out.below hb (Nat.le_refl _))
      replace HB := Lib.hid (HB.out.trans (hb.mono HB.out.size))
      clear hb
      go_wp2_with fail
      refine (Before_is (by omega) HSl.out Z0.out Hl.out).mono ?_
      rintro e w12 ⟨rfl, hb⟩
      replace Hl := Lib.hid (Hl.out.below hb (Nat.le_refl _))
      replace HB := Lib.hid (HB.out.trans (hb.mono HB.out.size))
      clear hb
      go_wp2_with fail
      refine (Before_is (by omega) HSl.out HAA.out Hl.out).mono ?_
      rintro e w13 ⟨rfl, hb⟩
      replace Hl := Lib.hid (Hl.out.below hb (Nat.le_refl _))
      replace HB := Lib.hid (HB.out.trans (hb.mono HB.out.size))
      clear hb
      go_wp2_with fail
      refine (Before_is (by omega) HSl.out Z1.out Hl.out).mono ?_
      rintro e w14 ⟨rfl, hb⟩
      replace Hl := Lib.hid (Hl.out.below hb (Nat.le_refl _))
      replace HB := Lib.hid (HB.out.trans (hb.mono HB.out.size))
      clear hb
      go_wp2_with fail
      refine (Before_is (by omega) HSl.out Z2.out Hl.out).mono ?_
      rintro e w15 ⟨rfl, hb⟩
      replace Hl := Lib.hid (Hl.out.below hb (Nat.le_refl _))
      replace HB := Lib.hid (HB.out.trans (hb.mono HB.out.size))
      clear hb
      go_wp2
      go_ret
      exact ⟨rfl, HB.out⟩
    · have HMD := Lib.hid hmd
      clear hmd
      cases hno : nthO ll B with
      | none =>
        have HN := Lib.hid hno
        clear hno
        go_wp2_with fail
        refine (Nth_no' B0 (by omega) HSl.out HN.out Hl.out).mono ?_
        rintro e w16 ⟨rfl, hb⟩
        replace Hl := Lib.hid (Hl.out.below hb (Nat.le_refl _))
        replace HB := Lib.hid (HB.out.trans (hb.mono HB.out.size))
        clear hb
        go_wp2_with fail
        refine (Has_is HSl.out HMD.out Hl.out).mono ?_
        rintro e w17 ⟨rfl, hb⟩
        replace Hl := Lib.hid (Hl.out.below hb (Nat.le_refl _))
        replace HB := Lib.hid (HB.out.trans (hb.mono HB.out.size))
        clear hb
        go_wp2_with fail
        refine (Nth_no _ _ (-1) (.inr (by omega)) _ Hl.out).mono ?_
        rintro e w18 ⟨rfl, hb⟩
        replace Hl := Lib.hid (Hl.out.below hb (Nat.le_refl _))
        replace HB := Lib.hid (HB.out.trans (hb.mono HB.out.size))
        clear hb
        go_wp2_with fail
        refine (Before_is (by omega) HSl.out Z0.out Hl.out).mono ?_
        rintro e w19 ⟨rfl, hb⟩
        replace Hl := Lib.hid (Hl.out.below hb (Nat.le_refl _))
        replace HB := Lib.hid (HB.out.trans (hb.mono HB.out.size))
        clear hb
        go_wp2_with fail
        refine (Before_is (by omega) HSl.out HAA.out Hl.out).mono ?_
        rintro e w20 ⟨rfl, hb⟩
        replace Hl := Lib.hid (Hl.out.below hb (Nat.le_refl _))
        replace HB := Lib.hid (HB.out.trans (hb.mono HB.out.size))
        clear hb
        go_wp2_with fail
        refine (Before_is (by omega) HSl.out Z1.out Hl.out).mono ?_
        rintro e w21 ⟨rfl, hb⟩
        replace Hl := Lib.hid (Hl.out.below hb (Nat.le_refl _))
        replace HB := Lib.hid (HB.out.trans (hb.mono HB.out.size))
        clear hb
        go_wp2_with fail
        refine (Before_is (by omega) HSl.out Z2.out Hl.out).mono ?_
        rintro e w22 ⟨rfl, hb⟩
        replace Hl := Lib.hid (Hl.out.below hb (Nat.le_refl _))
        replace HB := Lib.hid (HB.out.trans (hb.mono HB.out.size))
        clear hb
        go_wp2
        go_ret
        exact ⟨rfl, HB.out⟩
      | some x =>
        have HN := Lib.hid hno
        have hx := nthO_some HSl.out B0 hno
        have x1 : ¬ x < day := fun hlt => by have := beforeN_lt HSl.out hx.1 hlt; have := HBB.out; omega
        clear hno hx
        go_wp2_with fail
        refine (Nth_so B0 (by omega) HSl.out HN.out Hl.out).mono ?_
        rintro e w23 ⟨rfl, hb⟩
        replace Hl := Lib.hid (Hl.out.below hb (Nat.le_refl _))
        replace HB := Lib.hid (HB.out.trans (hb.mono HB.out.size))
        clear hb
        go_wp2_with fail
        refine (Has_is HSl.out HMD.out Hl.out).mono ?_
        rintro e w24 ⟨rfl, hb⟩
        replace Hl := Lib.hid (Hl.out.below hb (Nat.le_refl _))
        replace HB := Lib.hid (HB.out.trans (hb.mono HB.out.size))
        clear hb
        go_wp2_with fail
        refine (Nth_no _ _ (-1) (.inr (by omega)) _ Hl.out).mono ?_
        rintro e w25 ⟨rfl, hb⟩
        replace Hl := Lib.hid (Hl.out.below hb (Nat.le_refl _))
        replace HB := Lib.hid (HB.out.trans (hb.mono HB.out.size))
        clear hb
        go_wp2_with fail
        refine (Before_is (by omega) HSl.out Z0.out Hl.out).mono ?_
        rintro e w26 ⟨rfl, hb⟩
        replace Hl := Lib.hid (Hl.out.below hb (Nat.le_refl _))
        replace HB := Lib.hid (HB.out.trans (hb.mono HB.out.size))
        clear hb
        go_wp2_with fail
        refine (Before_is (by omega) HSl.out HAA.out Hl.out).mono ?_
        rintro e w27 ⟨rfl, hb⟩
        replace Hl := Lib.hid (Hl.out.below hb (Nat.le_refl _))
        replace HB := Lib.hid (HB.out.trans (hb.mono HB.out.size))
        clear hb
        go_wp2_with fail
        refine (Before_is (by omega) HSl.out Z1.out Hl.out).mono ?_
        rintro e w28 ⟨rfl, hb⟩
        replace Hl := Lib.hid (Hl.out.below hb (Nat.le_refl _))
        replace HB := Lib.hid (HB.out.trans (hb.mono HB.out.size))
        clear hb
        go_wp2_with fail
        refine (Before_is (by omega) HSl.out Z2.out Hl.out).mono ?_
        rintro e w29 ⟨rfl, hb⟩
        replace Hl := Lib.hid (Hl.out.below hb (Nat.le_refl _))
        replace HB := Lib.hid (HB.out.trans (hb.mono HB.out.size))
        clear hb
        go_wp2
        go_ret
        exact ⟨rfl, HB.out⟩
  | none =>
    have HN := Lib.hid hno
    have kA : ¬ k < A := by have := nthO_none HSl.out k0 hno; have := HAA.out; omega
    clear hno
    go_wp2_with fail
    refine (Nth_no' k0 (by omega) HSl.out HN.out Hl.out).mono ?_
    rintro e w30 ⟨rfl, hb⟩
    replace Hl := Lib.hid (Hl.out.below hb (Nat.le_refl _))
    replace HB := Lib.hid (HB.out.trans (hb.mono HB.out.size))
    clear hb
    go_wp2_with fail
    refine (Before_is HD.out HSl.out HBB.out Hl.out).mono ?_
    rintro e w31 ⟨rfl, hb⟩
    replace Hl := Lib.hid (Hl.out.below hb (Nat.le_refl _))
    replace HB := Lib.hid (HB.out.trans (hb.mono HB.out.size))
    clear hb
    rcases Bool.eq_false_or_eq_true (memB ll day) with hmd | hmd
    · have HN := Lib.hid (show nthO ll B = some day by rw [← HBB.out]; exact nthO_before HSl.out ((memB_iff _ _).1 hmd))
      have HMD := Lib.hid hmd
      clear hmd
      have q1 : (day != day) = false := by simp
      go_wp2_with fail
      refine (Nth_so B0 (by omega) HSl.out HN.out Hl.out).mono ?_
      rintro e w32 ⟨rfl, hb⟩
      replace Hl := Lib.hid (Hl.out.below hb (Nat.le_refl _))
      replace HB := Lib.hid (HB.out.trans (hb.mono HB.out.size))
      clear hb
      go_wp2_with fail
      refine (Has_is HSl.out HMD.out Hl.out).mono ?_
      rintro e w33 ⟨rfl, hb⟩
      replace Hl := Lib.hid (Hl.out.below hb (Nat.le_refl _))
      replace HB := Lib.hid (HB.out.trans (hb.mono HB.out.size))
      clear hb
      go_wp2_with fail
      refine (Nth_no _ _ (-1) (.inr (by omega)) _ Hl.out).mono ?_
      rintro e w34 ⟨rfl, hb⟩
      replace Hl := Lib.hid (Hl.out.below hb (Nat.le_refl _))
      replace HB := Lib.hid (HB.out.trans (hb.mono HB.out.size))
      clear hb
      go_wp2_with fail
      refine (Before_is (by omega) HSl.out Z0.out Hl.out).mono ?_
      rintro e w35 ⟨rfl, hb⟩
      replace Hl := Lib.hid (Hl.out.below hb (Nat.le_refl _))
      replace HB := Lib.hid (HB.out.trans (hb.mono HB.out.size))
      clear hb
      go_wp2_with fail
      refine (Before_is (by omega) HSl.out HAA.out Hl.out).mono ?_
      rintro e w36 ⟨rfl, hb⟩
      replace Hl := Lib.hid (Hl.out.below hb (Nat.le_refl _))
      replace HB := Lib.hid (HB.out.trans (hb.mono HB.out.size))
      clear hb
      go_wp2_with fail
      refine (Before_is (by omega) HSl.out Z1.out Hl.out).mono ?_
      rintro e w37 ⟨rfl, hb⟩
      replace Hl := Lib.hid (Hl.out.below hb (Nat.le_refl _))
      replace HB := Lib.hid (HB.out.trans (hb.mono HB.out.size))
      clear hb
      go_wp2_with fail
      refine (Before_is (by omega) HSl.out Z2.out Hl.out).mono ?_
      rintro e w38 ⟨rfl, hb⟩
      replace Hl := Lib.hid (Hl.out.below hb (Nat.le_refl _))
      replace HB := Lib.hid (HB.out.trans (hb.mono HB.out.size))
      clear hb
      go_wp2
      go_ret
      exact ⟨rfl, HB.out⟩
    · have HMD := Lib.hid hmd
      clear hmd
      cases hno : nthO ll B with
      | none =>
        have HN := Lib.hid hno
        clear hno
        go_wp2_with fail
        refine (Nth_no' B0 (by omega) HSl.out HN.out Hl.out).mono ?_
        rintro e w39 ⟨rfl, hb⟩
        replace Hl := Lib.hid (Hl.out.below hb (Nat.le_refl _))
        replace HB := Lib.hid (HB.out.trans (hb.mono HB.out.size))
        clear hb
        go_wp2_with fail
        refine (Has_is HSl.out HMD.out Hl.out).mono ?_
        rintro e w40 ⟨rfl, hb⟩
        replace Hl := Lib.hid (Hl.out.below hb (Nat.le_refl _))
        replace HB := Lib.hid (HB.out.trans (hb.mono HB.out.size))
        clear hb
        go_wp2_with fail
        refine (Nth_no _ _ (-1) (.inr (by omega)) _ Hl.out).mono ?_
        rintro e w41 ⟨rfl, hb⟩
        replace Hl := Lib.hid (Hl.out.below hb (Nat.le_refl _))
        replace HB := Lib.hid (HB.out.trans (hb.mono HB.out.size))
        clear hb
        go_wp2_with fail
        refine (Before_is (by omega) HSl.out Z0.out Hl.out).mono ?_
        rintro e w42 ⟨rfl, hb⟩
        replace Hl := Lib.hid (Hl.out.below hb (Nat.le_refl _))
        replace HB := Lib.hid (HB.out.trans (hb.mono HB.out.size))
        clear hb
        go_wp2_with fail
        refine (Before_is (by omega) HSl.out HAA.out Hl.out).mono ?_
        rintro e w43 ⟨rfl, hb⟩
        replace Hl := Lib.hid (Hl.out.below hb (Nat.le_refl _))
        replace HB := Lib.hid (HB.out.trans (hb.mono HB.out.size))
        clear hb
        go_wp2_with fail
        refine (Before_is (by omega) HSl.out Z1.out Hl.out).mono ?_
        rintro e w44 ⟨rfl, hb⟩
        replace Hl := Lib.hid (Hl.out.below hb (Nat.le_refl _))
        replace HB := Lib.hid (HB.out.trans (hb.mono HB.out.size))
        clear hb
        go_wp2_with fail
        refine (Before_is (by omega) HSl.out Z2.out Hl.out).mono ?_
        rintro e w45 ⟨rfl, hb⟩
        replace Hl := Lib.hid (Hl.out.below hb (Nat.le_refl _))
        replace HB := Lib.hid (HB.out.trans (hb.mono HB.out.size))
        clear hb
        go_wp2
        go_ret
        exact ⟨rfl, HB.out⟩
      | some x =>
        have HN := Lib.hid hno
        have hx := nthO_some HSl.out B0 hno
        have x1 : ¬ x < day := fun hlt => by have := beforeN_lt HSl.out hx.1 hlt; have := HBB.out; omega
        clear hno hx
        go_wp2_with fail
        refine (Nth_so B0 (by omega) HSl.out HN.out Hl.out).mono ?_
        rintro e w46 ⟨rfl, hb⟩
        replace Hl := Lib.hid (Hl.out.below hb (Nat.le_refl _))
        replace HB := Lib.hid (HB.out.trans (hb.mono HB.out.size))
        clear hb
        go_wp2_with fail
        refine (Has_is HSl.out HMD.out Hl.out).mono ?_
        rintro e w47 ⟨rfl, hb⟩
        replace Hl := Lib.hid (Hl.out.below hb (Nat.le_refl _))
        replace HB := Lib.hid (HB.out.trans (hb.mono HB.out.size))
        clear hb
        go_wp2_with fail
        refine (Nth_no _ _ (-1) (.inr (by omega)) _ Hl.out).mono ?_
        rintro e w48 ⟨rfl, hb⟩
        replace Hl := Lib.hid (Hl.out.below hb (Nat.le_refl _))
        replace HB := Lib.hid (HB.out.trans (hb.mono HB.out.size))
        clear hb
        go_wp2_with fail
        refine (Before_is (by omega) HSl.out Z0.out Hl.out).mono ?_
        rintro e w49 ⟨rfl, hb⟩
        replace Hl := Lib.hid (Hl.out.below hb (Nat.le_refl _))
        replace HB := Lib.hid (HB.out.trans (hb.mono HB.out.size))
        clear hb
        go_wp2_with fail
        refine (Before_is (by omega) HSl.out HAA.out Hl.out).mono ?_
        rintro e w50 ⟨rfl, hb⟩
        replace Hl := Lib.hid (Hl.out.below hb (Nat.le_refl _))
        replace HB := Lib.hid (HB.out.trans (hb.mono HB.out.size))
        clear hb
        go_wp2_with fail
        refine (Before_is (by omega) HSl.out Z1.out Hl.out).mono ?_
        rintro e w51 ⟨rfl, hb⟩
        replace Hl := Lib.hid (Hl.out.below hb (Nat.le_refl _))
        replace HB := Lib.hid (HB.out.trans (hb.mono HB.out.size))
        clear hb
        go_wp2_with fail
        refine (Before_is (by omega) HSl.out Z2.out Hl.out).mono ?_
        rintro e w52 ⟨rfl, hb⟩
        replace Hl := Lib.hid (Hl.out.below hb (Nat.le_refl _))
        replace HB := Lib.hid (HB.out.trans (hb.mono HB.out.size))
        clear hb
        go_wp2
        go_ret
        exact ⟨rfl, HB.out⟩

end Go.Proofs.Ytppihnliimbakaa
