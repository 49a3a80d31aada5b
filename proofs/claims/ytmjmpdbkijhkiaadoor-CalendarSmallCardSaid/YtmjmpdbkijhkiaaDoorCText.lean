/-
'with', 'Text'.
-/
import Derived.Test.YtmjmpdbkijhkiaaDoorCFuns
import Derived.Laws.Rows
import Derived.Laws.BytesArg
import Derived.LoopN
namespace Go.Proofs.YtmjmpdbkijhkiaaDoor
open Go.RowKit

set_option maxRecDepth 100000 in
set_option maxHeartbeats 1000000 in
theorem with_4 (n : Int) (h0 : 0 ≤ n) (h1 : n < 10000) (x0 x1 x2 x3 x4 x5 x6 x7 x8 x9 : Int) {w0 w : World} (hS : St w0 w) :
    Calls Tryd.prog 50 #[.agg #[.int .u8 x0, .int .u8 x1, .int .u8 x2, .int .u8 x3, .int .u8 x4, .int .u8 x5, .int .u8 x6, .int .u8 x7, .int .u8 x8, .int .u8 x9], .int .i64 n, .int .i64 4, .int .i64 4] w fun e w' => e = .returned (.agg #[.int .u8 (48 + n / 10 / 10 / 10 % 10), .int .u8 (48 + n / 10 / 10 % 10), .int .u8 (48 + n / 10 % 10), .int .u8 (48 + n % 10), .int .u8 x4, .int .u8 x5, .int .u8 x6, .int .u8 x7, .int .u8 x8, .int .u8 x9]) ∧ St w0 w' := by
  have HS := Lib.hid hS
  clear hS
  have hg0 := heap_alloc2_old w (.cells #[.int .u8 (48 + n / 10 / 10 / 10 % 10), .int .u8 (48 + n / 10 / 10 % 10), .int .u8 (48 + n / 10 % 10), .int .u8 (48 + n % 10), .int .u8 x4, .int .u8 x5, .int .u8 x6, .int .u8 x7, .int .u8 x8, .int .u8 x9] 50) (.cells #[.int .u8 0, .int .u8 0, .int .u8 0, .int .u8 0, .int .u8 0, .int .u8 0, .int .u8 0, .int .u8 0, .int .u8 0, .int .u8 0] 50)
  have hg1 := heap_alloc2_new w (.cells #[.int .u8 (48 + n / 10 / 10 / 10 % 10), .int .u8 (48 + n / 10 / 10 % 10), .int .u8 (48 + n / 10 % 10), .int .u8 (48 + n % 10), .int .u8 x4, .int .u8 x5, .int .u8 x6, .int .u8 x7, .int .u8 x8, .int .u8 x9] 50) (.cells #[.int .u8 0, .int .u8 0, .int .u8 0, .int .u8 0, .int .u8 0, .int .u8 0, .int .u8 0, .int .u8 0, .int .u8 0, .int .u8 0] 50)
  have G0 := Lib.hid hg0
  have G1 := Lib.hid hg1
  clear hg0 hg1
  go_enter Tryd.func50, Tryd.ntmps50
  go_wp2_with fail
  refine wp_loop_rounds 5 ?_
  rw [rounds_succ]
  go_wp2_with fail
  rw [rounds_succ]
  go_wp2_with fail
  rw [rounds_succ]
  go_wp2_with fail
  rw [rounds_succ]
  go_wp2_with fail
  rw [rounds_succ]
  go_wp2_with (first
    | (with_reducible refine wpList_load_row rfl 50 (.tmp 4) rfl w.heap.size rfl 50 _ (0, 0) _ G0.out Tryd.underlying50 rfl (by kernel_rfl) ?_)
    | (with_reducible refine wpList_store_row rfl 50 (.tmp 8) (.tmp 27) rfl (w.heap.size + 1) _ rfl rfl 50 _ G1.out (by kernel_rfl) rfl rfl ?_))
  refine bodyPost_ret (results_cell_row rfl _ _ (w.heap.size + 1) 50 _ (0, 0) _ rfl (heap_alloc2_new _ _ _) Tryd.underlying50 rfl (by kernel_rfl)) rfl ⟨rfl, HS.out.back ?_⟩
  exact ((Below.refl _ w).alloc (Nat.le_refl _) _).alloc (by simp) _

set_option maxRecDepth 100000 in
set_option maxHeartbeats 1000000 in
theorem with_m (n : Int) (h0 : 0 ≤ n) (h1 : n < 100) (x0 x1 x2 x3 x4 x5 x6 x7 x8 x9 : Int) {w0 w : World} (hS : St w0 w) :
    Calls Tryd.prog 50 #[.agg #[.int .u8 x0, .int .u8 x1, .int .u8 x2, .int .u8 x3, .int .u8 x4, .int .u8 x5, .int .u8 x6, .int .u8 x7, .int .u8 x8, .int .u8 x9], .int .i64 n, .int .i64 2, .int .i64 7] w fun e w' => e = .returned (.agg #[.int .u8 x0, .int .u8 x1, .int .u8 x2, .int .u8 x3, .int .u8 x4, .int .u8 (48 + n / 10 % 10), .int .u8 (48 + n % 10), .int .u8 x7, .int .u8 x8, .int .u8 x9]) ∧ St w0 w' := by
  have HS := Lib.hid hS
  clear hS
  have hg0 := heap_alloc2_old w (.cells #[.int .u8 x0, .int .u8 x1, .int .u8 x2, .int .u8 x3, .int .u8 x4, .int .u8 (48 + n / 10 % 10), .int .u8 (48 + n % 10), .int .u8 x7, .int .u8 x8, .int .u8 x9] 50) (.cells #[.int .u8 0, .int .u8 0, .int .u8 0, .int .u8 0, .int .u8 0, .int .u8 0, .int .u8 0, .int .u8 0, .int .u8 0, .int .u8 0] 50)
  have hg1 := heap_alloc2_new w (.cells #[.int .u8 x0, .int .u8 x1, .int .u8 x2, .int .u8 x3, .int .u8 x4, .int .u8 (48 + n / 10 % 10), .int .u8 (48 + n % 10), .int .u8 x7, .int .u8 x8, .int .u8 x9] 50) (.cells #[.int .u8 0, .int .u8 0, .int .u8 0, .int .u8 0, .int .u8 0, .int .u8 0, .int .u8 0, .int .u8 0, .int .u8 0, .int .u8 0] 50)
  have G0 := Lib.hid hg0
  have G1 := Lib.hid hg1
  clear hg0 hg1
  go_enter Tryd.func50, Tryd.ntmps50
  go_wp2_with fail
  refine wp_loop_rounds 3 ?_
  rw [rounds_succ]
  go_wp2_with fail
  rw [rounds_succ]
  go_wp2_with fail
  rw [rounds_succ]
  go_wp2_with (first
    | (with_reducible refine wpList_load_row rfl 50 (.tmp 4) rfl w.heap.size rfl 50 _ (0, 0) _ G0.out Tryd.underlying50 rfl (by kernel_rfl) ?_)
    | (with_reducible refine wpList_store_row rfl 50 (.tmp 8) (.tmp 27) rfl (w.heap.size + 1) _ rfl rfl 50 _ G1.out (by kernel_rfl) rfl rfl ?_))
  refine bodyPost_ret (results_cell_row rfl _ _ (w.heap.size + 1) 50 _ (0, 0) _ rfl (heap_alloc2_new _ _ _) Tryd.underlying50 rfl (by kernel_rfl)) rfl ⟨rfl, HS.out.back ?_⟩
  exact ((Below.refl _ w).alloc (Nat.le_refl _) _).alloc (by simp) _

set_option maxRecDepth 100000 in
set_option maxHeartbeats 1000000 in
theorem with_d (n : Int) (h0 : 0 ≤ n) (h1 : n < 100) (x0 x1 x2 x3 x4 x5 x6 x7 x8 x9 : Int) {w0 w : World} (hS : St w0 w) :
    Calls Tryd.prog 50 #[.agg #[.int .u8 x0, .int .u8 x1, .int .u8 x2, .int .u8 x3, .int .u8 x4, .int .u8 x5, .int .u8 x6, .int .u8 x7, .int .u8 x8, .int .u8 x9], .int .i64 n, .int .i64 2, .int .i64 10] w fun e w' => e = .returned (.agg #[.int .u8 x0, .int .u8 x1, .int .u8 x2, .int .u8 x3, .int .u8 x4, .int .u8 x5, .int .u8 x6, .int .u8 x7, .int .u8 (48 + n / 10 % 10), .int .u8 (48 + n % 10)]) ∧ St w0 w' := by
  have HS := Lib.hid hS
  clear hS
  have hg0 := heap_alloc2_old w (.cells #[.int .u8 x0, .int .u8 x1, .int .u8 x2, .int .u8 x3, .int .u8 x4, .int .u8 x5, .int .u8 x6, .int .u8 x7, .int .u8 (48 + n / 10 % 10), .int .u8 (48 + n % 10)] 50) (.cells #[.int .u8 0, .int .u8 0, .int .u8 0, .int .u8 0, .int .u8 0, .int .u8 0, .int .u8 0, .int .u8 0, .int .u8 0, .int .u8 0] 50)
  have hg1 := heap_alloc2_new w (.cells #[.int .u8 x0, .int .u8 x1, .int .u8 x2, .int .u8 x3, .int .u8 x4, .int .u8 x5, .int .u8 x6, .int .u8 x7, .int .u8 (48 + n / 10 % 10), .int .u8 (48 + n % 10)] 50) (.cells #[.int .u8 0, .int .u8 0, .int .u8 0, .int .u8 0, .int .u8 0, .int .u8 0, .int .u8 0, .int .u8 0, .int .u8 0, .int .u8 0] 50)
  have G0 := Lib.hid hg0
  have G1 := Lib.hid hg1
  clear hg0 hg1
  go_enter Tryd.func50, Tryd.ntmps50
  go_wp2_with fail
  refine wp_loop_rounds 3 ?_
  rw [rounds_succ]
  go_wp2_with fail
  rw [rounds_succ]
  go_wp2_with fail
  rw [rounds_succ]
  go_wp2_with (first
    | (with_reducible refine wpList_load_row rfl 50 (.tmp 4) rfl w.heap.size rfl 50 _ (0, 0) _ G0.out Tryd.underlying50 rfl (by kernel_rfl) ?_)
    | (with_reducible refine wpList_store_row rfl 50 (.tmp 8) (.tmp 27) rfl (w.heap.size + 1) _ rfl rfl 50 _ G1.out (by kernel_rfl) rfl rfl ?_))
  refine bodyPost_ret (results_cell_row rfl _ _ (w.heap.size + 1) 50 _ (0, 0) _ rfl (heap_alloc2_new _ _ _) Tryd.underlying50 rfl (by kernel_rfl)) rfl ⟨rfl, HS.out.back ?_⟩
  exact ((Below.refl _ w).alloc (Nat.le_refl _) _).alloc (by simp) _

/-- The bytes of a date. -/
def txtI (y m d : Int) : List Int :=
  [48 + y / 10 / 10 / 10 % 10, 48 + y / 10 / 10 % 10, 48 + y / 10 % 10, 48 + y % 10, 45, 48 + m / 10 % 10, 48 + m % 10, 45, 48 + d / 10 % 10, 48 + d % 10]

noncomputable def txt (day : Int) : ByteArray := strOfNums (txtI (Cal.yr (Cal.mon day)) (Cal.mo (Cal.mon day)) (Cal.dom day))

theorem conv_ten (w : World) (x0 x1 x2 x3 x4 x5 x6 x7 x8 x9 : Int) (T : TypeId) :
    (convert 33 9 (.slice (some ⟨w.heap.size, 0, none⟩) 10 10)).run Tryd.prog (w.alloc (.cells #[.int .u8 x0, .int .u8 x1, .int .u8 x2, .int .u8 x3, .int .u8 x4, .int .u8 x5, .int .u8 x6, .int .u8 x7, .int .u8 x8, .int .u8 x9] T)) = .ok (.string (strOfNums [x0, x1, x2, x3, x4, x5, x6, x7, x8, x9])) (w.alloc (.cells #[.int .u8 x0, .int .u8 x1, .int .u8 x2, .int .u8 x3, .int .u8 x4, .int .u8 x5, .int .u8 x6, .int .u8 x7, .int .u8 x8, .int .u8 x9] T)) := by
  refine run_convert_bytes_arg (P := Tryd.prog) _ 33 5 Tryd.underlying33 Tryd.underlying5 w.heap.size 0 10 10 [x0, x1, x2, x3, x4, x5, x6, x7, x8, x9] rfl (fun i hi => ?_) 9 Tryd.underlying9
  rw [World.cell?_alloc_at _ _ _ _ rfl]
  match i, hi with
  | 0, _ | 1, _ | 2, _ | 3, _ | 4, _ | 5, _ | 6, _ | 7, _ | 8, _ | 9, _ => rfl

set_option maxRecDepth 100000 in
set_option maxHeartbeats 1000000 in
theorem Text_ymd (day y m d : Int) (hy : 0 ≤ y ∧ y < 10000) (hm : 0 ≤ m ∧ m < 100) (hd : 0 ≤ d ∧ d < 100) {w0 w : World}
    (HQ : Hid (Calls Tryd.prog 28 #[.int .i64 day] w fun e w' => e = .returned (.tuple #[.int .i64 y, .int .i64 m, .int .i64 d, .int .i64 0]) ∧ St w0 w')) :
    Calls Tryd.prog 35 #[.int .i64 day] w fun e w' => e = .returned (.string (strOfNums (txtI y m d))) ∧ St w0 w' := by
  go_enter Tryd.func35, Tryd.ntmps35
  go_wp2_with (first
    | (go_at_call 28; refine HQ.out.mono ?_; rintro e w1 ⟨rfl, hs⟩; have HS1 := Lib.hid hs; clear hs)
    | (go_at_call 50; ((with_reducible refine (with_4 y hy.1 hy.2 _ _ _ _ _ _ _ _ _ _ HS1.out).mono ?_); rintro e w2 ⟨rfl, hs⟩; have HS2 := Lib.hid hs; clear hs))
    | (go_at_call 50; ((with_reducible refine (with_m m hm.1 hm.2 _ _ _ _ _ _ _ _ _ _ HS2.out).mono ?_); rintro e w3 ⟨rfl, hs⟩; have HS3 := Lib.hid hs; clear hs))
    | (go_at_call 50; ((with_reducible refine (with_d d hd.1 hd.2 _ _ _ _ _ _ _ _ _ _ HS3.out).mono ?_); rintro e w4 ⟨rfl, hs⟩; have HS4 := Lib.hid hs; clear hs; have hcv := conv_ten w4 (48 + y / 10 / 10 / 10 % 10) (48 + y / 10 / 10 % 10) (48 + y / 10 % 10) (48 + y % 10) 45 (48 + m / 10 % 10) (48 + m % 10) 45 (48 + d / 10 % 10) (48 + d % 10) 50))
    | (with_reducible refine wpList_store_row rfl 50 (.tmp 7) (.tmp 23) rfl w4.heap.size _ rfl rfl 50 _ (heap_alloc_new _ _) (by kernel_rfl) rfl rfl ?_))
  go_ret
  exact ⟨rfl, HS4.out.alloc _⟩

theorem Text_yes (day : Int) (h0 : 0 ≤ day) (h1 : day < 65536) {w0 w : World} (hS : St w0 w) :
    Calls Tryd.prog 35 #[.int .i64 day] w fun e w' => e = .returned (.string (txt day)) ∧ St w0 w' := by
  obtain ⟨m0, m1, _, _⟩ := Cal.mon_spec h0 h1
  have hy := Cal.yr_bd m0 (show Cal.mon day ≤ 2159 by omega)
  have hm := Cal.mo_bd (Cal.mon day)
  have hd := Cal.dom_bd h0 h1
  exact Text_ymd day _ _ _ ⟨by omega, by omega⟩ ⟨by omega, by omega⟩ ⟨by omega, by omega⟩ (Lib.hid (YMD_yes day h0 h1 hS))

theorem Text_no (day : Int) (h : day < 0 ∨ 65536 ≤ day) {w0 w : World} (hS : St w0 w) :
    Calls Tryd.prog 35 #[.int .i64 day] w fun e w' => e = .returned (.string ByteArray.empty) ∧ St w0 w' := by
  have HQ := Lib.hid (YMD_no day h hS)
  clear hS h
  go_enter Tryd.func35, Tryd.ntmps35
  go_wp2_with (go_at_call 28; refine HQ.out.mono ?_; rintro e w1 ⟨rfl, hs⟩; have HS1 := Lib.hid hs; clear hs)
  go_ret
  exact ⟨rfl, HS1.out⟩

end Go.Proofs.YtmjmpdbkijhkiaaDoor
