/-
The functions that only look: Before, Days, in, bound.
-/
import Derived.Test.YtanlaejdibikiaaGreatBase
namespace Go.Proofs.YtanlaejdibikiaaGreat
open Go.RowKit Go.Shelf Sp

theorem getD_eq {l : L} {k : Nat} (h : k < l.length) : l[k]?.getD (0, 0) = l[k] := by simp [h]

theorem beforeN_succ_take {l : L} {k : Nat} (hk : k < l.length) (d : Int) : beforeN (l.take (k + 1)) d = beforeN (l.take k) d + (min (max (l[k]?.getD (0, 0)).1 d) (l[k]?.getD (0, 0)).2 - (l[k]?.getD (0, 0)).1) := by
  rw [List.take_succ_eq_append_getElem hk, beforeN_append, getD_eq hk]
  simp [beforeN]

theorem mm (x y d : Int) : (if y < if x < d then d else x then y else if x < d then d else x) = min (max x d) y := by
  split <;> split <;> omega

set_option maxRecDepth 100000 in
set_option maxHeartbeats 2000000 in
theorem Before_yes (v : Value) (l : L) (day : Int) (hd : -9223372036854775808 ≤ day ∧ day ≤ 9223372036854775807) (hl : IsSet l) (w : World) (h : Spn w v l) : Calls Tryz.prog 28 #[v, .int .i64 day] w (Says (.int .i64 (beforeN l day)) w) := by
  have h' := h
  obtain ⟨a, cap, rfl, hlc, ⟨hcm, hcl, hcn⟩, hcs⟩ := h'
  clear hcn hcs
  have hv := fun W (hW : Below w.heap.size w W) => Valid_any (.slice a l.length cap) l W (h.below hW (Nat.le_refl _))
  rw [(vldB_iff l).2 hl] at hv
  have HV := Lib.hid hv
  have HS := Lib.hid h
  have HL := Lib.hid hl
  clear h hl hv
  obtain ⟨hd1, hd2⟩ := hd
  go_enter Tryz.func28, Tryz.ntmps28
  go_wp2_with (go_at_call 29; ((with_reducible refine (HV.out _ (Below.refl _ _)).mono ?_); rintro e w1 ⟨rfl, hb1⟩))
  go_loopw [5, 13] (fun n i wr => ∃ k : Nat, k ≤ l.length ∧ i = .int .i64 k ∧ n = .int .i64 (beforeN (l.take k) day) ∧ Below w.heap.size w wr) (fun _ i _ => l.length - (intOf i).toNat)
  case atStart => exact ⟨0, Nat.zero_le _, rfl, rfl, hb1⟩
  case round =>
    obtain ⟨k, hk, rfl, rfl, hb⟩ := hrel
    by_cases hlt : k < l.length
    · have hne : l ≠ [] := by intro e; rw [e] at hlt; simp at hlt
      obtain ⟨b, off, rfl, hbw, hc⟩ := HS.out.block hne
      have c1 := (hb.cell (p := ⟨b, off + k * 2, none⟩) hbw).trans (hc k hlt).1
      have c2 := (hb.cell (p := ⟨b, off + k * 2 + 1, none⟩) hbw).trans (hc k hlt).2
      have hg := HL.out.get hlt
      rw [← getD_eq hlt] at hg
      have hn := beforeN_take HL.out day k
      have HN := Lib.hid (beforeN_succ_take hlt day)
      obtain ⟨n, hnn⟩ : ∃ n, n = beforeN (l.take k) day := ⟨_, rfl⟩
      obtain ⟨x, hx⟩ : ∃ x, x = (l[k]?.getD (0, 0)).1 := ⟨_, rfl⟩
      obtain ⟨y, hy⟩ : ∃ y, y = (l[k]?.getD (0, 0)).2 := ⟨_, rfl⟩
      rw [← hx] at c1 hg HN
      rw [← hy] at c2 hg HN
      rw [← hnn] at hn HN ⊢
      obtain ⟨g1, g2, g3⟩ := hg
      obtain ⟨n1, n2⟩ := hn
      clear hx hy hc hnn
      have hb2 := hb.alloc (by have := hb.size; omega) (.cells #[.int .i64 x, .int .i64 y] 31)
      go_wp2
      go_roundw
      case rel => exact ⟨k + 1, by omega, by go_num, by rw [HN.out, ← mm x y day], hb2⟩
      case measure => simp [intOf]; omega
    · have e : l.take k = l := List.take_of_length_le (by omega)
      rw [e]
      clear e
      go_wp2
      go_ret
      exact ⟨rfl, hb⟩

set_option maxHeartbeats 1000000 in
theorem Before_no (v : Value) (l : L) (day : Int) (hl : ¬ IsSet l) (w : World) (h : Spn w v l) : Calls Tryz.prog 28 #[v, .int .i64 day] w (Says (.int .i64 0) w) := by
  have hv := fun W (hW : Below w.heap.size w W) => Valid_any v l W (h.below hW (Nat.le_refl _))
  rw [(vldB_not l).2 hl] at hv
  have HV := Lib.hid hv
  obtain ⟨a, cap, rfl, -⟩ := h
  clear hl hv
  go_enter Tryz.func28, Tryz.ntmps28
  go_wp2_with (go_at_call 29; ((with_reducible refine (HV.out _ (Below.refl _ _)).mono ?_); rintro e w1 ⟨rfl, hb1⟩))
  go_ret
  exact ⟨rfl, hb1⟩

theorem Days_yes (v : Value) (l : L) (hl : IsSet l) (w : World) (h : Spn w v l) : Calls Tryz.prog 27 #[v] w (Says (.int .i64 (beforeN l 65536)) w) := by
  have HV := Lib.hid (Before_yes v l 65536 (by omega) hl w h)
  obtain ⟨a, cap, rfl, -⟩ := h
  clear hl
  go_enter Tryz.func27, Tryz.ntmps27
  go_wp2_with (go_at_call 28; ((with_reducible refine HV.out.mono ?_); rintro e w1 ⟨rfl, hb1⟩))
  go_ret
  exact ⟨rfl, hb1⟩
theorem Days_no (v : Value) (l : L) (hl : ¬ IsSet l) (w : World) (h : Spn w v l) : Calls Tryz.prog 27 #[v] w (Says (.int .i64 0) w) := by
  have HV := Lib.hid (Before_no v l 65536 hl w h)
  obtain ⟨a, cap, rfl, -⟩ := h
  clear hl
  go_enter Tryz.func27, Tryz.ntmps27
  go_wp2_with (go_at_call 28; ((with_reducible refine HV.out.mono ?_); rintro e w1 ⟨rfl, hb1⟩))
  go_ret
  exact ⟨rfl, hb1⟩

theorem memB_take {l : L} {k : Nat} (hk : k < l.length) (d : Int) : memB (l.take (k + 1)) d = (memB (l.take k) d || decide ((l[k]?.getD (0, 0)).1 ≤ d ∧ d < (l[k]?.getD (0, 0)).2)) := by
  rw [List.take_succ_eq_append_getElem hk, Bool.eq_iff_iff, memB_iff, mem_append, Bool.or_eq_true, memB_iff, decide_eq_true_eq, getD_eq hk, mem_cons]
  simp [mem_nil]
theorem memB_get {l : L} {k : Nat} (hk : k < l.length) {d : Int} (h1 : (l[k]?.getD (0, 0)).1 ≤ d) (h2 : d < (l[k]?.getD (0, 0)).2) : memB l d = true := by
  rw [getD_eq hk] at h1 h2
  exact (memB_iff l d).2 ⟨l[k], List.getElem_mem hk, h1, h2⟩

set_option maxRecDepth 100000 in
set_option maxHeartbeats 2000000 in
theorem bound_any (v : Value) (l : L) (i : Nat) (hi : i ≤ 2 * l.length) (w : World) (h : Spn w v l) : Calls Tryz.prog 56 #[v, .int .i64 i] w fun e w' => e = .returned (.int .i64 (bnd l i)) ∧ w = w' := by
  have h' := h
  obtain ⟨a, cap, rfl, hlc, ⟨hcm, hcl, hcn⟩, hcs⟩ := h'
  clear hcn hcs
  by_cases hlt : i < 2 * l.length
  · have hk : i / 2 < l.length := by omega
    have hne : l ≠ [] := by intro e; rw [e] at hk; simp at hk
    obtain ⟨b, off, rfl, hbw, hc⟩ := h.block hne
    have c1 := (hc (i / 2) hk).1
    have c2 := (hc (i / 2) hk).2
    have hbd : bnd l i = if i % 2 = 0 then (l[i/2]?.getD (0, 0)).1 else (l[i/2]?.getD (0, 0)).2 := by unfold bnd; rw [if_pos hlt]
    have q1 : ((i : Int) / 2).toNat = i / 2 := by omega
    have q2 : (0 : Int) ≤ (i : Int) / 2 := by omega
    have q3 : (i : Int) / 2 < (l.length : Int) := by omega
    have q4 : ¬ (2 * (l.length : Int) ≤ (i : Int)) := by omega
    rcases Nat.mod_two_eq_zero_or_one i with e | e
    · rw [if_pos e] at hbd
      have HB := Lib.hid hbd
      obtain ⟨x, hx⟩ : ∃ x, x = (l[i / 2]?.getD (0, 0)).1 := ⟨_, rfl⟩
      rw [← hx] at c1 HB
      have q5 : ((i : Int) % 2 == 0) = true := by simp; omega
      clear hx hc c2 h hbd e
      go_enter Tryz.func56, Tryz.ntmps56
      go_wp2
      go_ret
      exact ⟨by rw [HB.out]; rfl, rfl⟩
    · rw [if_neg (by omega)] at hbd
      have HB := Lib.hid hbd
      obtain ⟨x, hx⟩ : ∃ x, x = (l[i / 2]?.getD (0, 0)).2 := ⟨_, rfl⟩
      rw [← hx] at c2 HB
      have q5 : ((i : Int) % 2 == 0) = false := by simp; omega
      clear hx hc c1 h hbd e
      go_enter Tryz.func56, Tryz.ntmps56
      go_wp2
      go_ret
      exact ⟨by rw [HB.out]; rfl, rfl⟩
  · have HB := Lib.hid (bnd_out (l := l) (i := i) (by omega))
    have q4 : 2 * (l.length : Int) ≤ (i : Int) := by omega
    clear h
    go_enter Tryz.func56, Tryz.ntmps56
    go_wp2
    go_ret
    exact ⟨by rw [HB.out]; rfl, rfl⟩

end Go.Proofs.YtanlaejdibikiaaGreat
