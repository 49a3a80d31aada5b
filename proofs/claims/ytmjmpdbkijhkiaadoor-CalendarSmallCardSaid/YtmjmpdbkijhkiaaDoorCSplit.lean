/-
'last' with the closure of 'split', and 'split'.
-/
import Derived.Test.YtmjmpdbkijhkiaaDoorCBase
import Derived.WalkSmall
namespace Go.Proofs.YtmjmpdbkijhkiaaDoor
open Go.RowKit

theorem start_quiet (n : Int) (h0 : 0 ≤ n) (h1 : n ≤ 2154) (w : World) (hL : Lens w) (k : Nat) : Calls Tryd.prog 36 #[.int .i64 n] (w.drewN k) fun e w' => e = .returned (.int .i64 (Cal.start n)) ∧ ∃ m, w' = w.drewN m :=
  Calls.quiet_of_same ((start_any n h0 (by omega) (w.drewN k) hL).mono fun _ _ ⟨he, hw⟩ => ⟨he, hw.symm⟩)

theorem split1_any (n day : Int) (B : Nat) (h0 : 0 ≤ n) (h1 : n ≤ 2154) (w : World) (hL : Lens w) (hc : w.cell? ⟨B, 0, none⟩ = some (.int .i64 day)) :
    Calls Tryd.prog 55 #[.int .i64 n, .pointer (some ⟨B, 0, none⟩)] w fun e w' => e = .returned (.bool (decide (Cal.start n ≤ day))) ∧ ∃ m, w' = w.drewN m := by
  have HLn := Lib.hid hL
  clear hL
  by_cases h : Cal.start n ≤ day
  · have HT := Lib.hid (decide_eq_true h)
    go_enter Tryd.func55, Tryd.ntmps55
    go_wp2
    go_quiet ((go_at_call 36; exact start_quiet n h0 h1 w HLn.out _))
    go_wp2
    go_ret
    exact ⟨by rw [HT.out]; rfl, _, rfl⟩
  · have HT := Lib.hid (decide_eq_false h)
    go_enter Tryd.func55, Tryd.ntmps55
    go_wp2
    go_quiet ((go_at_call 36; exact start_quiet n h0 h1 w HLn.out _))
    go_wp2
    go_ret
    exact ⟨by rw [HT.out]; rfl, _, rfl⟩

theorem split1_st (n day : Int) (B : Nat) (h0 : 0 ≤ n) (h1 : n ≤ 2154) {w0 w : World} (hS : St w0 w) (hc : w0.cell? ⟨B, 0, none⟩ = some (.int .i64 day)) :
    Calls Tryd.prog 55 #[.int .i64 n, .pointer (some ⟨B, 0, none⟩)] w fun e w' => e = .returned (.bool (decide (Cal.start n ≤ day))) ∧ St w0 w' :=
  (split1_any n day B h0 h1 w hS.at ((hS.below.cell (p := ⟨B, 0, none⟩) (cell_lt hc)).trans hc)).mono fun _ _ ⟨he, _, hm⟩ => ⟨he, hm ▸ ⟨hS.lens, below_drewN hS.below _⟩⟩

theorem last_any (day : Int) (B : Nat) (h0 : 0 ≤ day) (h1 : day < 65536) (w : World) (hL : Lens w) (hc : w.cell? ⟨B, 0, none⟩ = some (.int .i64 day)) :
    Calls Tryd.prog 54 #[.int .i64 2154, .func (.func 55) #[] #[.pointer (some ⟨B, 0, none⟩)]] w fun e w' => e = .returned (.int .i64 (Cal.mon day)) ∧ St w w' := by
  have HC := Lib.hid hc
  have HS := Lib.hid (St.refl hL)
  clear hc hL
  have s0 := Cal.start_0
  have s1 := Cal.start_2154
  have a0 : Cal.start 0 ≤ day := by rw [s0]; omega
  have a1 : day < Cal.start 2154 := by rw [s1]; omega
  clear s0 s1
  go_enter Tryd.func54, Tryd.ntmps54
  go_wp2
  go_loopw [5, 0] (fun v5 v0 wr => ∃ lo hi : Int, 0 ≤ lo ∧ lo < hi ∧ hi ≤ 2154 ∧ Cal.start lo ≤ day ∧ day < Cal.start hi ∧ v5 = .int .i64 lo ∧ v0 = .int .i64 hi ∧ St w wr) (fun v5 v0 _ => (intOf v0 - intOf v5).toNat)
  case atStart => exact ⟨0, 2154, by omega, by omega, by omega, a0, a1, rfl, rfl, HS.out⟩
  case round =>
    obtain ⟨lo, hi, hl0, hlt, hh, hb, ha, rfl, rfl, hst⟩ := hrel
    have HST := Lib.hid hst
    clear hst a0 a1
    by_cases hc : 1 < hi - lo
    · by_cases hp : Cal.start ((lo + hi) / 2) ≤ day
      · have HP := Lib.hid (decide_eq_true hp)
        go_wp2_with (go_at_call 55; refine (split1_st _ day B (by omega) (by omega) HST.out HC.out).mono ?_; rintro e w1 ⟨rfl, hs1⟩; rw [HP.out]; have HS1 := Lib.hid hs1; clear hs1)
        go_roundw
        case rel => exact ⟨(lo + hi) / 2, hi, by omega, by omega, by omega, hp, ha, rfl, rfl, HS1.out⟩
        case measure => simp [intOf]; omega
      · have HP := Lib.hid (decide_eq_false hp)
        go_wp2_with (go_at_call 55; refine (split1_st _ day B (by omega) (by omega) HST.out HC.out).mono ?_; rintro e w1 ⟨rfl, hs1⟩; rw [HP.out]; have HS1 := Lib.hid hs1; clear hs1)
        go_roundw
        case rel => exact ⟨lo, (lo + hi) / 2, by omega, by omega, by omega, hb, by omega, rfl, rfl, HS1.out⟩
        case measure => simp [intOf]; omega
    · have HE := Lib.hid (Cal.mon_uniq h0 h1 hl0 hb (by rw [← Cal.start_succ _ hl0]; rw [show lo + 1 = hi by omega]; exact ha))
      go_wp2
      go_ret
      exact ⟨by rw [HE.out]; rfl, HST.out⟩

/-- Called at a date. -/
theorem split_any (day : Int) (h0 : 0 ≤ day) (h1 : day < 65536) (w : World) (hL : Lens w) :
    Calls Tryd.prog 47 #[.int .i64 day] w fun e w' => e = .returned (.tuple #[.int .i64 (Cal.mon day), .int .i64 (Cal.dom day)]) ∧ St w w' := by
  have hmf : ∀ (fn : Fn) (first cap : Array Value) (w : World), (Instr.makeFunc fn first cap).run Tryd.prog w = .ok (.func fn first cap) w := fun _ _ _ _ => rfl
  obtain ⟨m0, m1, m2, m3⟩ := Cal.mon_spec h0 h1
  have hsb := Cal.start_bd m0 (show Cal.mon day ≤ 2154 by omega)
  have HD := Lib.hid (show Cal.dom day = day - Cal.start (Cal.mon day) + 1 from rfl)
  have hS0 : St w (w.alloc (.cells #[.int .i64 day] 3)) := (St.refl hL).alloc _
  have HLn := Lib.hid hS0.at
  have HS0 := Lib.hid hS0
  clear hL hS0
  have HC := Lib.hid (show (w.alloc (.cells #[.int .i64 day] 3)).cell? ⟨w.heap.size, 0, none⟩ = some (.int .i64 day) by rw [World.cell?_alloc_at _ _ _ _ rfl]; rfl)
  go_enter Tryd.func47, Tryd.ntmps47
  go_wp2_with (go_at_call 54; refine (last_any day _ h0 h1 _ HLn.out HC.out).mono ?_; rintro e w1 ⟨rfl, hs1⟩)
  have hc1 := (hs1.below.cell (p := ⟨w.heap.size, 0, none⟩) (by simp)).trans HC.out
  have HS1 := Lib.hid hs1
  clear hs1
  go_quiet ((go_at_call 36; exact start_quiet _ m0 (by omega) w1 HS1.out.at _))
  go_wp2
  go_ret2
  exact ⟨by rw [HD.out]; rfl, HS0.out.trans ⟨HS1.out.lens, below_drewN HS1.out.below _⟩⟩

end Go.Proofs.YtmjmpdbkijhkiaaDoor
