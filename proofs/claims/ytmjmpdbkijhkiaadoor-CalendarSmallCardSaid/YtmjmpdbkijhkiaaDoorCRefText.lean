/-
The reference's 'digits' and 'Text'.
-/
import Derived.Test.YtmjmpdbkijhkiaaDoorCRef2
import Derived.Test.YtmjmpdbkijhkiaaDoorCText
namespace Go.Proofs.YtmjmpdbkijhkiaaDoor
open Go.RowKit

theorem conv_one (w : World) (x : Int) (T : TypeId) :
    (convert 33 9 (.slice (some ⟨w.heap.size, 0, none⟩) 1 1)).run Tryd.prog (w.alloc (.cells #[.int .u8 x] T)) = .ok (.string (strOfNums [x])) (w.alloc (.cells #[.int .u8 x] T)) := by
  refine run_convert_bytes_arg (P := Tryd.prog) _ 33 5 Tryd.underlying33 Tryd.underlying5 w.heap.size 0 1 1 [x] rfl (fun i hi => ?_) 9 Tryd.underlying9
  rw [World.cell?_alloc_at _ _ _ _ rfl]
  obtain rfl : i = 0 := by omega
  rfl

theorem conv_at (w : World) (x : Int) (g : Nat) (hg : g = w.heap.size) (T : TypeId) :
    (convert 33 9 (.slice (some ⟨g, 0, none⟩) 1 1)).run Tryd.prog (w.alloc (.cells #[.int .u8 x] T)) = .ok (.string (strOfNums [x])) (w.alloc (.cells #[.int .u8 x] T)) := by
  subst hg; exact conv_one w x T

set_option maxRecDepth 100000 in
set_option maxHeartbeats 1000000 in
theorem digits_2 (n : Int) (h0 : 0 ≤ n) (h1 : n < 100) {w0 w : World} (hS : St w0 w) :
    Calls Tryd.prog 53 #[.int .i64 n, .int .i64 2] w fun e w' => e = .returned (.string (strOfNums [48 + n / 10 % 10, 48 + n % 10])) ∧ St w0 w' := by
  have HS := Lib.hid hS
  clear hS
  have hcv := fun (w : World) (x : Int) (g : Nat) (hg : g = w.heap.size) => conv_at w x g hg 5
  go_enter Tryd.func53, Tryd.ntmps53
  go_wp2_with fail
  refine wp_loop_rounds 3 ?_
  rw [rounds_succ]
  go_wp2_with fail
  rw [rounds_succ]
  go_wp2_with fail
  rw [rounds_succ]
  go_wp2
  go_ret
  exact ⟨rfl, HS.out.back (((Below.refl _ w).alloc (Nat.le_refl _) _).alloc (by simp <;> omega) _)⟩

set_option maxRecDepth 100000 in
set_option maxHeartbeats 1000000 in
theorem digits_4 (n : Int) (h0 : 0 ≤ n) (h1 : n < 10000) {w0 w : World} (hS : St w0 w) :
    Calls Tryd.prog 53 #[.int .i64 n, .int .i64 4] w fun e w' => e = .returned (.string (strOfNums [48 + n / 10 / 10 / 10 % 10, 48 + n / 10 / 10 % 10, 48 + n / 10 % 10, 48 + n % 10])) ∧ St w0 w' := by
  have HS := Lib.hid hS
  clear hS
  have hcv := fun (w : World) (x : Int) (g : Nat) (hg : g = w.heap.size) => conv_at w x g hg 5
  go_enter Tryd.func53, Tryd.ntmps53
  go_wp2_with fail
  refine wp_loop_rounds 5 ?_
  rw [rounds_succ]
  go_wp2_with fail
  rw [rounds_succ]
  go_wp2_with fail
  rw [rounds_succ]
  go_wp2_with fail
  rw [rounds_succ]
  go_wp2_with fail
  rw [rounds_succ]
  go_wp2
  go_ret
  exact ⟨rfl, HS.out.back (((((Below.refl _ w).alloc (Nat.le_refl _) _).alloc (by simp <;> omega) _).alloc (by simp <;> omega) _).alloc (by simp <;> omega) _)⟩

theorem refText_ymd (day y m d : Int) (hy : 0 ≤ y ∧ y < 10000) (hm : 0 ≤ m ∧ m < 100) (hd : 0 ≤ d ∧ d < 100) {w0 w : World} (hS : St w0 w)
    (HQ : Pure 38 #[.int .i64 day] (.tuple #[.int .i64 y, .int .i64 m, .int .i64 d, .int .i64 0])) :
    Calls Tryd.prog 41 #[.int .i64 day] w fun e w' => e = .returned (.string (strOfNums (txtI y m d))) ∧ St w0 w' := by
  have HS := Lib.hid hS
  clear hS
  go_enter Tryd.func41, Tryd.ntmps41
  go_wp2_with (first
    | (go_at_call 38; refine (HQ.go _).mono ?_; rintro e w1 ⟨rfl, rfl⟩)
    | (go_at_call 53; ((with_reducible refine (digits_4 y hy.1 hy.2 HS.out).mono ?_); rintro e w2 ⟨rfl, hs⟩; have HS2 := Lib.hid hs; clear hs))
    | (go_at_call 53; ((with_reducible refine (digits_2 m hm.1 hm.2 HS2.out).mono ?_); rintro e w3 ⟨rfl, hs⟩; have HS3 := Lib.hid hs; clear hs))
    | (go_at_call 53; ((with_reducible refine (digits_2 d hd.1 hd.2 HS3.out).mono ?_); rintro e w4 ⟨rfl, hs⟩; have HS4 := Lib.hid hs; clear hs)))
  go_ret
  exact ⟨rfl, HS4.out⟩

theorem refText_yes (day : Int) (h0 : 0 ≤ day) (h1 : day < 65536) {w0 w : World} (hS : St w0 w) :
    Calls Tryd.prog 41 #[.int .i64 day] w fun e w' => e = .returned (.string (txt day)) ∧ St w0 w' := by
  obtain ⟨m0, m1, _, _⟩ := Cal.mon_spec h0 h1
  have hy := Cal.yr_bd m0 (show Cal.mon day ≤ 2159 by omega)
  have hm := Cal.mo_bd (Cal.mon day)
  have hd := Cal.dom_bd h0 h1
  exact refText_ymd day _ _ _ ⟨by omega, by omega⟩ ⟨by omega, by omega⟩ ⟨by omega, by omega⟩ hS (ref_ymd day h0 h1)

theorem refText_no (day : Int) (h : day < 0 ∨ 65536 ≤ day) {w0 w : World} (hS : St w0 w) :
    Calls Tryd.prog 41 #[.int .i64 day] w fun e w' => e = .returned (.string ByteArray.empty) ∧ St w0 w' := by
  have HS := Lib.hid hS
  have HQ := ref_ymd_no day h
  clear hS h
  go_enter Tryd.func41, Tryd.ntmps41
  go_wp2_with (go_at_call 38; refine (HQ.go _).mono ?_; rintro e w1 ⟨rfl, rfl⟩)
  go_ret
  exact ⟨rfl, HS.out⟩

end Go.Proofs.YtmjmpdbkijhkiaaDoor
