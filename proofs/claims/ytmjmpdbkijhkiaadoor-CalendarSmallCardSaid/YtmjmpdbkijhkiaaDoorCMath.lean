/-
The calendar in plain integers: leap years, lengths of months, the first days of the months.
-/
namespace Cal

def leapB (y : Int) : Bool := decide (y % 4 = 0 ∧ (¬ y % 100 = 0 ∨ y % 400 = 0))

theorem leapB_yes {y : Int} (h : y % 4 = 0 ∧ (¬ y % 100 = 0 ∨ y % 400 = 0)) : leapB y = true := decide_eq_true h
theorem leapB_no {y : Int} (h : ¬ (y % 4 = 0 ∧ (¬ y % 100 = 0 ∨ y % 400 = 0))) : leapB y = false := decide_eq_false h

/-- The number of days of a month. -/
def len (y m : Int) : Int :=
  if m = 2 then (if leapB y = true then 29 else 28)
  else if m = 4 ∨ m = 6 ∨ m = 9 ∨ m = 11 then 30
  else if 1 ≤ m ∧ m ≤ 12 then 31 else 0

/-- Days of the months before m. -/
def cum (y m : Int) : Int :=
  if m ≤ 1 then 0 else if m = 2 then 31 else
    (if leapB y = true then 1 else 0) +
    (if m = 3 then 59 else if m = 4 then 90 else if m = 5 then 120 else if m = 6 then 151 else if m = 7 then 181 else if m = 8 then 212 else if m = 9 then 243 else if m = 10 then 273 else if m = 11 then 304 else if m = 12 then 334 else 365)

theorem leap_cases (y : Int) : leapB y = true ∨ leapB y = false := by cases leapB y <;> simp

theorem len_bd (y m : Int) : 0 ≤ len y m ∧ len y m ≤ 31 := by
  unfold len
  rcases leap_cases y with h | h <;> rw [h] <;> simp only [if_true, Bool.false_eq_true, if_false] <;> (repeat' split) <;> omega

theorem len_lo (y m : Int) (h1 : 1 ≤ m) (h2 : m ≤ 12) : 28 ≤ len y m := by
  unfold len
  rcases leap_cases y with h | h <;> rw [h] <;> simp only [if_true, Bool.false_eq_true, if_false] <;> (repeat' split) <;> omega

theorem len_out (y m : Int) (h : m < 1 ∨ 12 < m) : len y m = 0 := by
  unfold len
  rw [if_neg (by omega), if_neg (by omega), if_neg (by omega)]

theorem cum_one (y : Int) : cum y 1 = 0 := by unfold cum; rw [if_pos (by omega)]

theorem one_to_12 {m : Int} (h1 : 1 ≤ m) (h2 : m ≤ 12) : m = 1 ∨ m = 2 ∨ m = 3 ∨ m = 4 ∨ m = 5 ∨ m = 6 ∨ m = 7 ∨ m = 8 ∨ m = 9 ∨ m = 10 ∨ m = 11 ∨ m = 12 := by omega

theorem cum_succ (y m : Int) (h1 : 1 ≤ m) (h2 : m ≤ 12) : cum y (m + 1) = cum y m + len y m := by
  unfold cum len
  rcases leap_cases y with h | h <;> rw [h] <;> rcases one_to_12 h1 h2 with rfl | rfl | rfl | rfl | rfl | rfl | rfl | rfl | rfl | rfl | rfl | rfl <;> decide

theorem cum_succ' (y m : Int) (h1 : 0 ≤ m) (h2 : m ≤ 13) : cum y (m + 1) = cum y m + len y m := by
  by_cases e0 : m = 0
  · subst e0; rw [len_out _ _ (by omega)]; rw [show (0 : Int) + 1 = 1 from rfl]; unfold cum; simp
  · by_cases e13 : m = 13
    · subst e13; rw [len_out _ _ (by omega)]; unfold cum; rcases leap_cases y with h | h <;> rw [h] <;> decide
    · exact cum_succ y m (by omega) (by omega)

theorem ite_bd {p : Prop} [Decidable p] {a b lo hi : Int} (ha : lo ≤ a ∧ a ≤ hi) (hb : lo ≤ b ∧ b ≤ hi) : lo ≤ (if p then a else b) ∧ (if p then a else b) ≤ hi := by
  split <;> assumption

theorem cum_bd (y m : Int) : 0 ≤ cum y m ∧ cum y m ≤ 366 := by
  unfold cum
  refine ite_bd (by omega) (ite_bd (by omega) ?_)
  have h1 : (0 : Int) ≤ (if leapB y = true then 1 else 0) ∧ (if leapB y = true then (1 : Int) else 0) ≤ 1 := ite_bd (by omega) (by omega)
  have h2 : (0 : Int) ≤ (if m = 3 then 59 else if m = 4 then 90 else if m = 5 then 120 else if m = 6 then 151 else if m = 7 then 181 else if m = 8 then 212 else if m = 9 then 243 else if m = 10 then 273 else if m = 11 then 304 else if m = 12 then 334 else 365) ∧ (if m = 3 then (59 : Int) else if m = 4 then 90 else if m = 5 then 120 else if m = 6 then 151 else if m = 7 then 181 else if m = 8 then 212 else if m = 9 then 243 else if m = 10 then 273 else if m = 11 then 304 else if m = 12 then 334 else 365) ≤ 365 := by
    repeat' (first | omega | refine ite_bd (by omega) ?_)
  omega

theorem cum_13 (y : Int) : cum y 13 = 365 + (if leapB y = true then 1 else 0) := by
  unfold cum
  rcases leap_cases y with h | h <;> rw [h] <;> simp

/-- Days before a year, from 1900 on. -/
def dby (y : Int) : Int := (y - 1900) * 365 + ((y - 1) / 4 - (y - 1) / 100 + (y - 1) / 400) - 460

theorem dby_1900 : dby 1900 = 0 := by decide

theorem dby_succ (y : Int) : dby (y + 1) = dby y + 365 + (if leapB y = true then 1 else 0) := by
  unfold dby
  by_cases h4 : y % 4 = 0 ∧ (¬ y % 100 = 0 ∨ y % 400 = 0)
  · rw [leapB_yes h4]; simp only [if_true]; omega
  · rw [leapB_no h4]; simp only [Bool.false_eq_true, if_false]; omega

theorem dby_bd (y : Int) (h1 : 1900 ≤ y) (h2 : y ≤ 2079) : 0 ≤ dby y ∧ dby y ≤ 65379 := by
  unfold dby; omega

/-- The first day of the month with a number. -/
def start (n : Int) : Int := dby (1900 + n / 12) + cum (1900 + n / 12) (n % 12 + 1)

/-- The number of days of the month with a number. -/
def mlen (n : Int) : Int := len (1900 + n / 12) (n % 12 + 1)

theorem mlen_bd (n : Int) : 28 ≤ mlen n ∧ mlen n ≤ 31 := by
  unfold mlen
  have h := Int.emod_nonneg n (show (12 : Int) ≠ 0 by decide)
  have h' := Int.emod_lt_of_pos n (show (0 : Int) < 12 by decide)
  exact ⟨len_lo _ _ (by omega) (by omega), (len_bd _ _).2⟩

theorem start_succ (n : Int) (_h0 : 0 ≤ n) : start (n + 1) = start n + mlen n := by
  unfold start mlen
  by_cases h : n % 12 = 11
  · have e1 : (n + 1) / 12 = n / 12 + 1 := by omega
    have e2 : (n + 1) % 12 = 0 := by omega
    rw [e1, e2, h, show (1900 : Int) + (n / 12 + 1) = 1900 + n / 12 + 1 by omega, dby_succ, show (0 : Int) + 1 = 1 from rfl, cum_one]
    have := cum_succ (1900 + n / 12) 12 (by omega) (by omega)
    rw [show (12 : Int) + 1 = 13 from rfl, cum_13] at this
    rw [show (11 : Int) + 1 = 12 from rfl]
    omega
  · have e1 : (n + 1) / 12 = n / 12 := by omega
    have e2 : (n + 1) % 12 = n % 12 + 1 := by omega
    rw [e1, e2, cum_succ _ _ (by omega) (by omega)]
    omega

theorem start_0 : start 0 = 0 := by decide
theorem start_2154 : start 2154 = 65560 := by decide
theorem start_2153 : start 2153 = 65530 := by decide

theorem start_add (n : Int) (h0 : 0 ≤ n) (k : Nat) : start n + 28 * k ≤ start (n + k) := by
  induction k with
  | zero => simp
  | succ k ih =>
    have := start_succ (n + k) (by omega)
    have := mlen_bd (n + k)
    rw [show n + ((k + 1 : Nat) : Int) = n + k + 1 by omega]
    omega

theorem start_lt {a b : Int} (h0 : 0 ≤ a) (h : a < b) : start a + mlen a ≤ start b := by
  have := start_add (a + 1) (by omega) (b - a - 1).toNat
  rw [show a + 1 + ((b - a - 1).toNat : Int) = b by omega, start_succ a h0] at this
  omega

theorem start_le {a b : Int} (h0 : 0 ≤ a) (h : a ≤ b) : start a ≤ start b := by
  rcases Int.lt_or_eq_of_le h with h | rfl
  · have := start_lt h0 h
    have := mlen_bd a
    omega
  · omega

theorem start_bd {n : Int} (h0 : 0 ≤ n) (h1 : n ≤ 2154) : 0 ≤ start n ∧ start n ≤ 65560 := by
  have a := start_le (Int.le_refl 0) h0
  have b := start_le h0 h1
  rw [start_0] at a
  rw [start_2154] at b
  omega

theorem start_inj {a b c : Int} (ha : 0 ≤ a) (hb : 0 ≤ b) (h1 : start a ≤ c) (h2 : c < start a + mlen a) (h3 : start b ≤ c) (h4 : c < start b + mlen b) : a = b := by
  rcases Int.lt_trichotomy a b with h | h | h
  · have := start_lt ha h; omega
  · exact h
  · have := start_lt hb h; omega

def monthFrom (day : Int) : Nat → Int
  | 0 => 0
  | k + 1 => if start (k + 1) ≤ day then ((k : Int) + 1) else monthFrom day k

theorem monthFrom_spec (day : Int) (h : 0 ≤ day) (k : Nat) : 0 ≤ monthFrom day k ∧ monthFrom day k ≤ k ∧ start (monthFrom day k) ≤ day ∧ (∀ j : Int, monthFrom day k < j → j ≤ k → day < start j) := by
  induction k with
  | zero => exact ⟨by simp [monthFrom], by simp [monthFrom], by simp [monthFrom, start_0, h], fun j h1 h2 => by simp [monthFrom] at h1; omega⟩
  | succ k ih =>
    obtain ⟨i1, i2, i3, i4⟩ := ih
    unfold monthFrom
    by_cases hc : start (k + 1) ≤ day
    · rw [if_pos hc]
      exact ⟨by omega, by omega, hc, fun j h1 h2 => by omega⟩
    · rw [if_neg hc]
      refine ⟨i1, by omega, i3, fun j h1 h2 => ?_⟩
      by_cases hj : j ≤ k
      · exact i4 j h1 hj
      · rw [show j = (k : Int) + 1 by omega]; omega

theorem mon_ex (day : Int) : ∃ n : Int, 0 ≤ day → day < 65536 → 0 ≤ n ∧ n ≤ 2153 ∧ start n ≤ day ∧ day < start n + mlen n := by
  refine ⟨monthFrom day 2153, fun h0 h1 => ?_⟩
  have hs := monthFrom_spec day h0 2153
  generalize monthFrom day 2153 = n at hs
  obtain ⟨a, b, c, d⟩ := hs
  refine ⟨a, b, c, ?_⟩
  rw [← start_succ _ a]
  by_cases e : n = 2153
  · rw [e]; show day < start 2154; rw [start_2154]; omega
  · exact d (n + 1) (by omega) (by omega)

/-- The month of a day. -/
noncomputable def mon (day : Int) : Int := Classical.choose (mon_ex day)

theorem mon_spec {day : Int} (h0 : 0 ≤ day) (h1 : day < 65536) : 0 ≤ mon day ∧ mon day ≤ 2153 ∧ start (mon day) ≤ day ∧ day < start (mon day) + mlen (mon day) :=
  Classical.choose_spec (mon_ex day) h0 h1

theorem mon_uniq {day n : Int} (h0 : 0 ≤ day) (h1 : day < 65536) (hn : 0 ≤ n) (a : start n ≤ day) (b : day < start n + mlen n) : mon day = n := by
  obtain ⟨p, _, q, r⟩ := mon_spec h0 h1
  exact start_inj p hn q r a b

/-- The day of the month. -/
noncomputable def dom (day : Int) : Int := day - start (mon day) + 1

theorem dom_bd {day : Int} (h0 : 0 ≤ day) (h1 : day < 65536) : 1 ≤ dom day ∧ dom day ≤ mlen (mon day) ∧ dom day ≤ 31 := by
  obtain ⟨p, _, q, r⟩ := mon_spec h0 h1
  have := mlen_bd (mon day)
  unfold dom
  omega

theorem mon_mono {a b : Int} (h0 : 0 ≤ a) (h : a ≤ b) (h1 : b < 65536) : mon a ≤ mon b := by
  obtain ⟨p, _, q, r⟩ := mon_spec h0 (by omega)
  obtain ⟨p', _, q', r'⟩ := mon_spec (show 0 ≤ b by omega) h1
  rcases Int.lt_or_le (mon b) (mon a) with hh | hh
  · have := start_lt p' hh; omega
  · exact hh

theorem mon_le {a n : Int} (h0 : 0 ≤ a) (h1 : a < 65536) (_hn : 0 ≤ n) (h : start n ≤ a) : n ≤ mon a := by
  obtain ⟨p, _, q, r⟩ := mon_spec h0 h1
  rcases Int.lt_or_le (mon a) n with hh | hh
  · have := start_lt p hh; omega
  · exact hh

/-- Whether there is such a date: the number of 'Day'. -/
def dayN (y m d : Int) : Int := dby y + cum y m + d - 1

theorem start_of {y m : Int} (h1 : 1 ≤ m) (h2 : m ≤ 12) : start ((y - 1900) * 12 + m - 1) = dby y + cum y m := by
  unfold start
  rw [show ((y - 1900) * 12 + m - 1) / 12 = y - 1900 by omega, show ((y - 1900) * 12 + m - 1) % 12 = m - 1 by omega, show 1900 + (y - 1900) = y by omega, show m - 1 + 1 = m by omega]

theorem mlen_of {y m : Int} (h1 : 1 ≤ m) (h2 : m ≤ 12) : mlen ((y - 1900) * 12 + m - 1) = len y m := by
  unfold mlen
  rw [show ((y - 1900) * 12 + m - 1) / 12 = y - 1900 by omega, show ((y - 1900) * 12 + m - 1) % 12 = m - 1 by omega, show 1900 + (y - 1900) = y by omega, show m - 1 + 1 = m by omega]

/-- Is there such a date? -/
def dateB (y m d : Int) : Bool := decide (1900 ≤ y ∧ y ≤ 2079 ∧ 1 ≤ m ∧ m ≤ 12 ∧ 1 ≤ d ∧ d ≤ len y m ∧ dayN y m d < 65536)

theorem dateB_mk {y m d : Int} (h : 1900 ≤ y ∧ y ≤ 2079 ∧ 1 ≤ m ∧ m ≤ 12 ∧ 1 ≤ d ∧ d ≤ len y m ∧ dayN y m d < 65536) : dateB y m d = true := decide_eq_true h

/-- The date n months later, where there is one. -/
noncomputable def laterN (day n : Int) : Int := start (mon day + n) + min (dom day) (mlen (mon day + n)) - 1

noncomputable def laterB (day n : Int) : Bool := decide (-mon day ≤ n ∧ n < 2154 - mon day ∧ laterN day n < 65536)

/-- Whole months, a at most b. -/
noncomputable def whole (a b : Int) : Int := if laterB a (mon b - mon a) = true ∧ laterN a (mon b - mon a) ≤ b then mon b - mon a else mon b - mon a - 1

theorem laterN_bd {day n : Int} (h0 : 0 ≤ day) (h1 : day < 65536) (hn1 : -mon day ≤ n) (hn2 : n < 2154 - mon day) : 0 ≤ laterN day n ∧ laterN day n < 65560 ∧ start (mon day + n) ≤ laterN day n ∧ laterN day n < start (mon day + n) + mlen (mon day + n) := by
  have hd := dom_bd h0 h1
  have hm := mlen_bd (mon day + n)
  have hs := start_bd (n := mon day + n) (by omega) (by omega)
  have hs' := start_bd (n := mon day + n + 1) (by omega) (by omega)
  rw [start_succ _ (by omega)] at hs'
  unfold laterN
  omega

theorem whole_bd {a b : Int} (h0 : 0 ≤ a) (h : a ≤ b) (h1 : b < 65536) : 0 ≤ whole a b ∧ whole a b ≤ 2153 := by
  obtain ⟨p, p', q, r⟩ := mon_spec h0 (show a < 65536 by omega)
  obtain ⟨p1, p2, q', r'⟩ := mon_spec (show 0 ≤ b by omega) h1
  have hmm := mon_mono h0 h h1
  unfold whole
  split
  · omega
  · rename_i hc
    have : mon a ≠ mon b := by
      intro e
      apply hc
      have e0 : mon b - mon a = 0 := by omega
      have hl : laterN a 0 = a := by
        unfold laterN
        have hd := dom_bd h0 (show a < 65536 by omega)
        rw [show mon a + 0 = mon a by omega]
        unfold dom at hd ⊢
        omega
      rw [e0, hl]
      exact ⟨decide_eq_true ⟨by omega, by omega, by rw [hl]; omega⟩, h⟩
    omega

/-- The year and the month of a number of a month. -/
def yr (n : Int) : Int := 1900 + n / 12
def mo (n : Int) : Int := n % 12 + 1

theorem mo_bd (n : Int) : 1 ≤ mo n ∧ mo n ≤ 12 := by unfold mo; omega
theorem yr_bd {n : Int} (h0 : 0 ≤ n) (h1 : n ≤ 2159) : 1900 ≤ yr n ∧ yr n ≤ 2079 := by unfold yr; omega
theorem ym_back (n : Int) : (yr n - 1900) * 12 + mo n - 1 = n := by unfold yr mo; omega
theorem start_ym (n : Int) : start n = dby (yr n) + cum (yr n) (mo n) := rfl
theorem mlen_ym (n : Int) : mlen n = len (yr n) (mo n) := rfl

/-- A date is one, and it leads back. -/
theorem date_back {day : Int} (h0 : 0 ≤ day) (h1 : day < 65536) : dateB (yr (mon day)) (mo (mon day)) (dom day) = true ∧ dayN (yr (mon day)) (mo (mon day)) (dom day) = day := by
  obtain ⟨a, b, c, d⟩ := mon_spec h0 h1
  have e : dayN (yr (mon day)) (mo (mon day)) (dom day) = day := by
    unfold dayN dom
    have := start_ym (mon day)
    omega
  have hd := dom_bd h0 h1
  have hm := mo_bd (mon day)
  have hy := yr_bd a (show mon day ≤ 2159 by omega)
  rw [mlen_ym] at hd
  exact ⟨dateB_mk ⟨hy.1, hy.2, hm.1, hm.2, hd.1, hd.2.1, by omega⟩, e⟩

theorem date_bd {y m d : Int} (h : dateB y m d = true) : 1900 ≤ y ∧ y ≤ 2079 ∧ 1 ≤ m ∧ m ≤ 12 ∧ 1 ≤ d ∧ d ≤ len y m ∧ 0 ≤ dayN y m d ∧ dayN y m d < 65536 := by
  have h' := of_decide_eq_true h
  have hc := cum_bd y m
  have hb := dby_bd y h'.1 h'.2.1
  have : 0 ≤ dayN y m d := by unfold dayN; omega
  exact ⟨h'.1, h'.2.1, h'.2.2.1, h'.2.2.2.1, h'.2.2.2.2.1, h'.2.2.2.2.2.1, this, h'.2.2.2.2.2.2⟩

theorem mon_of {y m d : Int} (h : dateB y m d = true) : mon (dayN y m d) = (y - 1900) * 12 + m - 1 ∧ dom (dayN y m d) = d := by
  obtain ⟨a, b, c, e, f, g, k, l⟩ := date_bd h
  have hs := start_of (y := y) (m := m) c e
  have hl := mlen_of (y := y) (m := m) c e
  have e1 : mon (dayN y m d) = (y - 1900) * 12 + m - 1 := mon_uniq k l (by omega) (by rw [hs]; unfold dayN; omega) (by rw [hs, hl]; unfold dayN; omega)
  refine ⟨e1, ?_⟩
  unfold dom
  rw [e1, hs]
  unfold dayN
  omega

/-- The day before. -/
theorem prev_same {day : Int} (h0 : 0 ≤ day) (h1 : day < 65536) (h : 1 < dom day) : mon (day - 1) = mon day ∧ dom (day - 1) = dom day - 1 := by
  obtain ⟨a, b, c, d⟩ := mon_spec h0 h1
  unfold dom at h
  have hs := start_bd (n := mon day) a (by omega)
  have e : mon (day - 1) = mon day := mon_uniq (by omega) (by omega) a (by omega) (by omega)
  exact ⟨e, by unfold dom; rw [e]; omega⟩

theorem prev_month {day : Int} (h0 : 0 < day) (h1 : day < 65536) (h : dom day = 1) : 0 < mon day ∧ mon (day - 1) = mon day - 1 ∧ dom (day - 1) = mlen (mon day - 1) := by
  obtain ⟨a, b, c, d⟩ := mon_spec (show 0 ≤ day by omega) h1
  unfold dom at h
  have hp : 0 < mon day := by
    rcases Int.lt_or_eq_of_le a with hh | hh
    · exact hh
    · rw [← hh, start_0] at h; omega
  have hs := start_succ (mon day - 1) (by omega)
  rw [show mon day - 1 + 1 = mon day by omega] at hs
  have hm := mlen_bd (mon day - 1)
  have e : mon (day - 1) = mon day - 1 := mon_uniq (by omega) (by omega) (by omega) (by omega) (by omega)
  exact ⟨hp, e, by unfold dom; rw [e]; omega⟩

theorem mo_prev {n : Int} (h : 1 < mo n) : yr (n - 1) = yr n ∧ mo (n - 1) = mo n - 1 := by unfold mo yr at *; omega
theorem mo_first {n : Int} (h : mo n = 1) : yr (n - 1) = yr n - 1 ∧ mo (n - 1) = 12 := by unfold mo yr at *; omega

/-- Leap years before a year. -/
def lps (y : Int) : Int := (y - 1) / 4 - (y - 1) / 100 + (y - 1) / 400
theorem lps_succ (y : Int) : lps (y + 1) = lps y + (if leapB y = true then 1 else 0) := by
  unfold lps
  by_cases h4 : y % 4 = 0 ∧ (¬ y % 100 = 0 ∨ y % 400 = 0)
  · rw [leapB_yes h4]; simp only [if_true]; omega
  · rw [leapB_no h4]; simp only [Bool.false_eq_true, if_false]; omega
theorem lps_400 (y : Int) : lps (y + 400) = lps y + 97 := by unfold lps; omega
theorem leap_400 (y : Int) : leapB (y + 400) = leapB y := by
  unfold leapB
  congr 1
  rw [show (y + 400) % 4 = y % 4 by omega, show (y + 400) % 100 = y % 100 by omega, show (y + 400) % 400 = y % 400 by omega]
theorem leap_4 {y : Int} (h : leapB y = true) : y % 4 = 0 := (of_decide_eq_true h).1
theorem lps_mono (y : Int) (k : Nat) : lps y ≤ lps (y + k) ∧ lps (y + k) ≤ lps y + k := by
  induction k with
  | zero => simp
  | succ k ih =>
    have := lps_succ (y + k)
    rw [show y + ((k + 1 : Nat) : Int) = y + k + 1 by omega]
    rcases leap_cases (y + k) with h | h <;> rw [h] at this <;> simp at this <;> omega

/-- What the tests of the laws ask of 'whole'. -/
theorem later_mono {a n m : Int} (h0 : 0 ≤ a) (h1 : a < 65536) (hn : -mon a ≤ n) (hnm : n < m) (hm : m < 2154 - mon a) : laterN a n < laterN a m := by
  have p := laterN_bd h0 h1 hn (by omega)
  have q := laterN_bd h0 h1 (n := m) (by omega) hm
  obtain ⟨a0, _, _, _⟩ := mon_spec h0 h1
  have := start_lt (a := mon a + n) (b := mon a + m) (by omega) (by omega)
  omega

theorem laterN_zero {a : Int} (h0 : 0 ≤ a) (h1 : a < 65536) : laterN a 0 = a := by
  unfold laterN
  have hd := dom_bd h0 h1
  rw [show mon a + 0 = mon a by omega]
  unfold dom at hd ⊢
  omega

/-- The whole months: they don't lead beyond, and one more does or there is no such date. -/
theorem whole_spec {a b : Int} (h0 : 0 ≤ a) (h : a ≤ b) (h1 : b < 65536) : 0 ≤ whole a b ∧ whole a b ≤ 2153 ∧ laterB a (whole a b) = true ∧ laterN a (whole a b) ≤ b ∧ a ≤ laterN a (whole a b) ∧ (laterB a (whole a b + 1) = true → b < laterN a (whole a b + 1)) := by
  have hbd := whole_bd h0 h h1
  obtain ⟨p, p', q, r⟩ := mon_spec h0 (show a < 65536 by omega)
  obtain ⟨p1, p2, q', r'⟩ := mon_spec (show 0 ≤ b by omega) h1
  have hmm := mon_mono h0 h h1
  have up : ∀ n : Int, 0 ≤ n → n < 2154 - mon a → a ≤ laterN a n := fun n hn hn2 => by
    rcases Int.lt_or_eq_of_le hn with hh | hh
    · have := later_mono h0 (show a < 65536 by omega) (n := 0) (by omega) hh hn2
      rw [laterN_zero h0 (by omega)] at this
      omega
    · rw [← hh, laterN_zero h0 (by omega)]; omega
  by_cases hc : laterB a (mon b - mon a) = true ∧ laterN a (mon b - mon a) ≤ b
  · have e : whole a b = mon b - mon a := by unfold whole; rw [if_pos hc]
    rw [e] at hbd ⊢
    refine ⟨hbd.1, hbd.2, hc.1, hc.2, up _ (by omega) (by omega), fun hl => ?_⟩
    have hl' := of_decide_eq_true hl
    have := laterN_bd h0 (show a < 65536 by omega) (n := mon b - mon a + 1) (by omega) hl'.2.1
    have hs := start_lt (a := mon b) (b := mon b + 1) p1 (by omega)
    rw [show mon a + (mon b - mon a + 1) = mon b + 1 by omega] at this
    omega
  · have e : whole a b = mon b - mon a - 1 := by unfold whole; rw [if_neg hc]
    rw [e] at hbd ⊢
    have hl0 := laterN_bd h0 (show a < 65536 by omega) (n := mon b - mon a - 1) (by omega) (by omega)
    have hs := start_lt (a := mon b - 1) (b := mon b) (by omega) (by omega)
    rw [show mon a + (mon b - mon a - 1) = mon b - 1 by omega] at hl0
    refine ⟨hbd.1, hbd.2, decide_eq_true ⟨by omega, by omega, by omega⟩, by omega, up _ (by omega) (by omega), fun hl => ?_⟩
    rw [show mon b - mon a - 1 + 1 = mon b - mon a by omega] at hl ⊢
    exact Int.not_le.1 fun hh => hc ⟨hl, hh⟩

end Cal
