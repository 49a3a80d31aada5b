/-
'Leap', 'Len', 'named', 'leapYears', 'start', 'areDates': they only read.
-/
import Derived.Test.YtmjmpdbkijhkiaaDoorProg
import Derived.Test.YtmjmpdbkijhkiaaDoorCLits
import Derived.WalkKit
import Derived.WalkSpells
import Derived.Below
import Derived.Lib.Hide
import Derived.BigQuiet
import Derived.Deep.QuietTactic
import Derived.IntWalk
import Derived.Outline
import Derived.LoopTactic
namespace Go.Proofs.YtmjmpdbkijhkiaaDoor
open Go.RowKit

/-- The cells of 'lengths'. -/
def lenT (j : Nat) : Int := match j with | 1 => 28 | 3 => 30 | 5 => 30 | 8 => 30 | 10 => 30 | _ => 31

def Lens (W : World) : Prop := ∀ j : Nat, j < 12 → W.cell? ⟨0, j, none⟩ = some (.int .i64 (lenT j))

theorem cell_lt {W : World} {a : Addr} {v : Value} (h : W.cell? a = some v) : a.block < W.heap.size := by
  unfold World.cell? at h
  cases hb : W.heap[a.block]? with
  | none => simp [hb] at h
  | some o => exact (Array.getElem?_eq_some_iff.1 hb).1

theorem Lens.pos {W : World} (h : Lens W) : 0 < W.heap.size := cell_lt (h 0 (by decide))

/-- What holds between two steps of a walk: the table is there, and nothing that was there has changed. -/
structure St (w0 w : World) : Prop where
  lens : Lens w0
  below : Below w0.heap.size w0 w

theorem St.refl {w : World} (h : Lens w) : St w w := ⟨h, Below.refl _ _⟩
theorem St.at {w0 w : World} (h : St w0 w) : Lens w := fun j hj => (h.below.cell (p := ⟨0, j, none⟩) h.lens.pos).trans (h.lens j hj)
theorem St.trans {w0 w w' : World} (h : St w0 w) (g : St w w') : St w0 w' := ⟨h.lens, h.below.trans (g.below.mono h.below.size)⟩
theorem St.alloc {w0 w : World} (h : St w0 w) (o : Obj) : St w0 (w.alloc o) := ⟨h.lens, h.below.alloc h.below.size o⟩
theorem St.drew {w0 w : World} (h : St w0 w) : St w0 w.drew := ⟨h.lens, h.below.drew⟩
theorem St.back {w0 w w' : World} (h : St w0 w) (g : Below w.heap.size w w') : St w0 w' := ⟨h.lens, h.below.trans (g.mono h.below.size)⟩

theorem tm {y k : Int} : (y.tmod k == 0) = decide (y % k = 0) := by
  rw [Bool.eq_iff_iff]
  simp only [beq_iff_eq, decide_eq_true_eq]
  rw [← Int.dvd_iff_tmod_eq_zero, ← Int.dvd_iff_emod_eq_zero]
theorem tmn {y k : Int} : (y.tmod k != 0) = decide (¬ y % k = 0) := by
  rw [bne, tm]
  simp

theorem Leap_any (y : Int) (w : World) : Calls Tryd.prog 17 #[.int .i64 y] w fun e w' => e = .returned (.bool (Cal.leapB y)) ∧ w = w' := by
  have e4 := tm (y := y) (k := 4)
  have e1 := tmn (y := y) (k := 100)
  have e0 := tm (y := y) (k := 400)
  by_cases h4 : y % 4 = 0
  · by_cases h1 : y % 100 = 0
    · by_cases h0 : y % 400 = 0
      · have HL := Lib.hid (Cal.leapB_yes (y := y) ⟨h4, .inr h0⟩)
        simp only [h4, h1, h0, decide_true, decide_false, not_true] at e4 e1 e0
        clear h4 h1 h0
        go_enter Tryd.func17, Tryd.ntmps17
        go_wp2
        go_ret
        exact ⟨by rw [HL.out]; rfl, rfl⟩
      · have HL := Lib.hid (Cal.leapB_no (y := y) (fun h => h.2.elim (fun h => h h1) (fun h => h0 h)))
        simp only [h4, h1, h0, decide_true, decide_false, not_true] at e4 e1 e0
        clear h4 h1 h0
        go_enter Tryd.func17, Tryd.ntmps17
        go_wp2
        go_ret
        exact ⟨by rw [HL.out]; rfl, rfl⟩
    · have HL := Lib.hid (Cal.leapB_yes (y := y) ⟨h4, .inl h1⟩)
      simp only [h4, h1, decide_true, not_false_iff] at e4 e1
      clear h4 h1 e0
      go_enter Tryd.func17, Tryd.ntmps17
      go_wp2
      go_ret
      exact ⟨by rw [HL.out]; rfl, rfl⟩
  · have HL := Lib.hid (Cal.leapB_no (y := y) (fun h => h4 h.1))
    simp only [h4, decide_false] at e4
    clear h4 e1 e0
    go_enter Tryd.func17, Tryd.ntmps17
    go_wp2
    go_ret
    exact ⟨by rw [HL.out]; rfl, rfl⟩

theorem named_any (n : Int) (h0 : 0 ≤ n) (h1 : n ≤ 1000000) (w : World) : Calls Tryd.prog 48 #[.int .i64 n] w fun e w' => e = .returned (.tuple #[.int .i64 (Cal.yr n), .int .i64 (Cal.mo n)]) ∧ w = w' := by
  go_enter Tryd.func48, Tryd.ntmps48
  go_wp2
  go_ret2
  exact ⟨rfl, rfl⟩

theorem leapYears_any (n : Int) (h0 : 0 ≤ n) (h1 : n ≤ 1000000) (w : World) : Calls Tryd.prog 51 #[.int .i64 n] w fun e w' => e = .returned (.int .i64 (n / 4 - n / 100 + n / 400)) ∧ w = w' := by
  go_enter Tryd.func51, Tryd.ntmps51
  go_wp2
  go_ret
  exact ⟨rfl, rfl⟩

theorem lenT_len (y m : Int) (h1 : 1 ≤ m) (h2 : m ≤ 12) (h : ¬ (m = 2 ∧ Cal.leapB y = true)) : lenT (m.toNat - 1) = Cal.len y m := by
  rcases Cal.one_to_12 h1 h2 with rfl | rfl | rfl | rfl | rfl | rfl | rfl | rfl | rfl | rfl | rfl | rfl <;> first | rfl | (rcases Cal.leap_cases y with hl | hl; (exact absurd ⟨rfl, hl⟩ h); (unfold Cal.len; rw [hl]; rfl))

set_option maxHeartbeats 400000 in
theorem Len_any (y m : Int) (hm : -9223372036854775808 ≤ m ∧ m ≤ 9223372036854775807) (w : World) (hL : Lens w) : Calls Tryd.prog 19 #[.int .i64 y, .int .i64 m] w fun e w' => e = .returned (.int .i64 (Cal.len y m)) ∧ w = w' := by
  by_cases h1 : m < 1
  · have HL := Lib.hid (Cal.len_out y m (.inl h1))
    go_enter Tryd.func19, Tryd.ntmps19
    go_wp2
    go_ret
    exact ⟨by rw [HL.out]; rfl, rfl⟩
  · by_cases h2 : 12 < m
    · have HL := Lib.hid (Cal.len_out y m (.inr h2))
      go_enter Tryd.func19, Tryd.ntmps19
      go_wp2
      go_ret
      exact ⟨by rw [HL.out]; rfl, rfl⟩
    · by_cases hm2 : m = 2
      · subst hm2
        have hc : w.cell? ⟨0, 1, none⟩ = some (.int .i64 28) := hL 1 (by decide)
        rcases Cal.leap_cases y with hl | hl
        · have HL := Lib.hid (show Cal.len y 2 = 29 by unfold Cal.len; rw [hl]; rfl)
          have HV := Lib.hid hl
          clear hl hL
          go_enter Tryd.func19, Tryd.ntmps19
          go_wp2_with (go_at_call 17; refine (Leap_any _ _).mono ?_; rintro e w' ⟨rfl, rfl⟩; rw [HV.out])
          go_ret
          exact ⟨by rw [HL.out]; rfl, rfl⟩
        · have HL := Lib.hid (show Cal.len y 2 = 28 by unfold Cal.len; rw [hl]; rfl)
          have HV := Lib.hid hl
          clear hl hL
          go_enter Tryd.func19, Tryd.ntmps19
          go_wp2_with (go_at_call 17; refine (Leap_any _ _).mono ?_; rintro e w' ⟨rfl, rfl⟩; rw [HV.out])
          go_ret
          exact ⟨by rw [HL.out]; rfl, rfl⟩
      · have hc : w.cell? ⟨0, m.toNat - 1, none⟩ = some (.int .i64 (lenT (m.toNat - 1))) := hL _ (by omega)
        have hd : (m == 2) = false := by simpa using hm2
        have HL := Lib.hid (lenT_len y m (by omega) (by omega) (fun h => hm2 h.1))
        clear hL hm2
        go_enter Tryd.func19, Tryd.ntmps19
        go_wp2
        go_ret
        exact ⟨by rw [HL.out]; rfl, rfl⟩

theorem ret_int {k : IntKind} {a b : Int} (h : a = b) : Ending.returned (.int k a) = .returned (.int k b) := by rw [h]

set_option maxHeartbeats 400000 in
theorem start_any (n : Int) (h0 : 0 ≤ n) (h1 : n ≤ 2159) (w : World) (hL : Lens w) : Calls Tryd.prog 36 #[.int .i64 n] w fun e w' => e = .returned (.int .i64 (Cal.start n)) ∧ w = w' := by
  have hy : 1900 ≤ Cal.yr n ∧ Cal.yr n ≤ 2079 := Cal.yr_bd h0 h1
  have hm := Cal.mo_bd n
  have hd := Cal.dby_bd _ hy.1 hy.2
  have HS := Lib.hid (Cal.start_ym n)
  obtain ⟨y, HY⟩ : ∃ y, Hid (y = Cal.yr n) := ⟨_, Lib.hid rfl⟩
  obtain ⟨m, HM⟩ : ∃ m, Hid (m = Cal.mo n) := ⟨_, Lib.hid rfl⟩
  rw [← HY.out, ← HM.out] at HS
  rw [← HY.out] at hy hd
  rw [← HM.out] at hm
  have HD := Lib.hid (show (y - 1900) * 365 + ((y - 1) / 4 - (y - 1) / 100 + (y - 1) / 400) - 460 = Cal.dby y from rfl)
  have HLn := Lib.hid hL
  clear hL
  go_enter Tryd.func36, Tryd.ntmps36
  go_wp2_with (first
    | (go_at_call 48; refine (named_any n h0 (by omega) _).mono ?_; rintro e w' ⟨rfl, rfl⟩; rw [← HY.out, ← HM.out])
    | (go_at_call 51; refine (leapYears_any _ (by omega) (by omega) _).mono ?_; rintro e w' ⟨rfl, rfl⟩))
  go_loop [5, 6] (fun v i => ∃ k : Int, 1 ≤ k ∧ k ≤ m ∧ i = .int .i64 k ∧ v = .int .i64 (Cal.dby y + Cal.cum y k)) (fun _ i => (13 - intOf i).toNat)
  case atStart => exact ⟨1, by omega, by omega, rfl, by rw [Cal.cum_one, ← HD.out]; go_num⟩
  case round =>
    obtain ⟨k, hk1, hk2, rfl, rfl⟩ := hrel
    have hc := Cal.cum_bd y k
    have hl := Cal.len_bd y k
    by_cases hlt : k < m
    · have HC := Lib.hid (Cal.cum_succ y k hk1 (by omega))
      go_wp2_with (go_at_call 19; refine (Len_any _ _ (by omega) _ HLn.out).mono ?_; rintro e w' ⟨rfl, rfl⟩)
      go_round
      case rel => exact ⟨k + 1, by omega, by omega, rfl, by rw [HC.out]; go_num⟩
      case measure => simp [intOf]; omega
    · obtain rfl : k = m := by omega
      go_wp2
      go_ret
      exact ⟨ret_int HS.out.symm, rfl⟩

/-- All are dates. -/
def datesB (zs : List Int) : Bool := zs.all fun z => decide (0 ≤ z) && decide (z < 65536)

theorem datesB_take (zs : List Int) (k : Nat) (h : k < zs.length) (hk : datesB (zs.take k) = true) (h0 : 0 ≤ zs[k]) (h1 : zs[k] < 65536) : datesB (zs.take (k + 1)) = true := by
  rw [List.take_succ_eq_append_getElem h]
  unfold datesB at *
  rw [List.all_append, hk]
  simp [h0, h1]

theorem datesB_no (zs : List Int) (k : Nat) (h : k < zs.length) (h0 : ¬ (0 ≤ zs[k] ∧ zs[k] < 65536)) : datesB zs = false := by
  rw [Bool.eq_false_iff]
  intro hb
  have := List.all_eq_true.1 hb zs[k] (List.getElem_mem h)
  simp at this
  exact h0 this

theorem areDates_any (B : Nat) (zs : List Int) (hz : zs.length ≤ 1000) (w : World) (hc : ∀ j (h : j < zs.length), w.cell? ⟨B, j, none⟩ = some (.int .i64 zs[j])) :
    Calls Tryd.prog 37 #[.slice (some ⟨B, 0, none⟩) zs.length zs.length] w fun e w' => e = .returned (.bool (datesB zs)) ∧ w = w' := by
  have HC := Lib.hid hc
  clear hc
  obtain ⟨n, HN⟩ : ∃ n, Hid (n = zs.length) := ⟨_, Lib.hid rfl⟩
  rw [← HN.out] at hz ⊢
  go_enter Tryd.func37, Tryd.ntmps37
  go_wp2
  go_loop [7] (fun i => ∃ k : Nat, k ≤ n ∧ i = .int .i64 k ∧ datesB (zs.take k) = true) (fun i => n - (intOf i).toNat)
  case atStart => exact ⟨0, Nat.zero_le _, rfl, rfl⟩
  case round =>
    obtain ⟨k, hk, rfl, hd⟩ := hrel
    have HD := Lib.hid hd
    clear hd
    by_cases hlt : k < n
    · have hkl : k < zs.length := by rw [← HN.out]; exact hlt
      obtain ⟨z, hz0⟩ : ∃ z, z = zs[k] := ⟨_, rfl⟩
      have hcell := HC.out k hkl
      rw [← hz0] at hcell
      have HZ := Lib.hid hz0
      clear hz0
      by_cases h0 : 0 ≤ z
      · by_cases h1 : z < 65536
        · go_wp2
          go_round
          case rel => exact ⟨k + 1, by omega, by go_num, datesB_take zs k hkl HD.out (by rw [← HZ.out]; exact h0) (by rw [← HZ.out]; exact h1)⟩
          case measure => simp [intOf]; omega
        · have HF := Lib.hid (datesB_no zs k hkl (fun h => h1 (by rw [HZ.out]; exact h.2)))
          go_wp2
          go_ret
          exact ⟨by rw [HF.out]; rfl, rfl⟩
      · have HF := Lib.hid (datesB_no zs k hkl (fun h => h0 (by rw [HZ.out]; exact h.1)))
        go_wp2
        go_ret
        exact ⟨by rw [HF.out]; rfl, rfl⟩
    · obtain rfl : k = n := by omega
      have HT := Lib.hid (show datesB zs = true by have := HD.out; rwa [List.take_of_length_le (by rw [← HN.out]; omega)] at this)
      go_wp2
      go_ret
      exact ⟨by rw [HT.out]; rfl, rfl⟩

end Go.Proofs.YtmjmpdbkijhkiaaDoor
