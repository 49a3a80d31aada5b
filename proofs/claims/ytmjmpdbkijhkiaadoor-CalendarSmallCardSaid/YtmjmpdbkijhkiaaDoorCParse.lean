/-
'Parse'.
-/
import Derived.Test.YtmjmpdbkijhkiaaDoorCRead
import Derived.Test.YtmjmpdbkijhkiaaDoorCTxt2
import Derived.Test.YtmjmpdbkijhkiaaDoorCRet
namespace Go.Proofs.YtmjmpdbkijhkiaaDoor
open Go.RowKit

theorem heap_alloc_lt {w : World} {o : Obj} {k : Nat} (h : k < w.heap.size) : (w.alloc o).heap[k]? = w.heap[k]? := Below.heap_alloc w o k h

theorem Parse_short (s : ByteArray) (h : ((s.size : Int) == 10) = false) {w0 w : World} (hS : St w0 w) :
    Calls Tryd.prog 24 #[.string s] w fun e w' => e = .returned (.tuple #[.int .i64 0, .int .i64 2]) ∧ St w0 w' := by
  have HS := Lib.hid hS
  have h' : ((s.size : Int) != 10) = true := by simp [bne, h]
  clear hS
  go_enter Tryd.func24, Tryd.ntmps24
  go_wp2
  go_ret2
  exact ⟨rfl, HS.out⟩

theorem str_ne {t s : ByteArray} (h : t ≠ s) : (t.toList == s.toList) = false := by
  rw [beq_eq_false_iff_ne]
  intro e
  rw [Lib.toList_data, Lib.toList_data] at e
  apply h
  obtain ⟨⟨a⟩⟩ := t
  obtain ⟨⟨b⟩⟩ := s
  simp at e
  rw [e]

/-- The world in which 'read' is called. -/
abbrev W4 (w : World) : World := (((w.alloc (.cells #[.int .i64 0] 3)).alloc (.cells #[.int .i64 0] 3)).alloc (.cells #[.int .i64 0] 3)).alloc (.cells #[.pointer (some ⟨w.heap.size, 0, none⟩), .pointer (some ⟨w.heap.size + 1, 0, none⟩), .pointer (some ⟨w.heap.size + 1 + 1, 0, none⟩)] 45)

theorem numCells_new (l : List UInt8) (w : World) : NumCells l w.heap.size 0 (W4 w) := fun i hi => by
  rw [if_neg (by omega)]
  match i, hi with
  | 0, _ => rw [Nat.add_zero, heap_alloc_lt (by simp <;> omega), heap_alloc_lt (by simp <;> omega), heap_alloc_lt (by simp), heap_alloc_new]
  | 1, _ => rw [heap_alloc_lt (by simp), heap_alloc_lt (by simp)]; exact heap_alloc2_new _ _ _
  | 2, _ => rw [heap_alloc_lt (by simp)]; simpa using heap_alloc2_new (w.alloc (.cells #[.int .i64 0] 3)) (.cells #[.int .i64 0] 3) (.cells #[.int .i64 0] 3)

theorem ptrs_new (w : World) : (W4 w).heap[w.heap.size + 1 + 1 + 1]? = some (.cells (ptrs w.heap.size) 45 (0, 0)) := by
  simpa [ptrs] using heap_alloc_new (((w.alloc (.cells #[.int .i64 0] 3)).alloc (.cells #[.int .i64 0] 3)).alloc (.cells #[.int .i64 0] 3)) (.cells #[.pointer (some ⟨w.heap.size, 0, none⟩), .pointer (some ⟨w.heap.size + 1, 0, none⟩), .pointer (some ⟨w.heap.size + 1 + 1, 0, none⟩)] 45)

theorem below_W4 (w : World) : Below w.heap.size w (W4 w) := ((((Below.refl _ w).alloc (Nat.le_refl _) _).alloc (by simp) _).alloc (by simp <;> omega) _).alloc (by simp <;> omega) _

theorem read_four (s : ByteArray) (h10 : s.size ≤ 10) (y m d : Int) (hy : y = CalT.num (CalT.lst s.data.toList 0)) (hm : m = CalT.num (CalT.lst s.data.toList 1)) (hd : d = CalT.num (CalT.lst s.data.toList 2)) (w : World) :
    Calls Tryd.prog 45 #[.string s, .slice (some ⟨w.heap.size + 1 + 1 + 1, 0, none⟩) 3 3] (W4 w) fun e w' => e = .returned (.tuple #[]) ∧ w'.cell? ⟨w.heap.size, 0, none⟩ = some (.int .i64 y) ∧ w'.cell? ⟨w.heap.size + 1, 0, none⟩ = some (.int .i64 m) ∧ w'.cell? ⟨w.heap.size + 1 + 1, 0, none⟩ = some (.int .i64 d) ∧ Below w.heap.size w w' := by
  refine (read_any s h10 w.heap.size (w.heap.size + 1 + 1 + 1) (W4 w) (numCells_new _ w) (ptrs_new w) (by omega)).mono fun e w' ⟨he, hc, hb, hz⟩ => ⟨he, ?_, ?_, ?_, (below_W4 w).trans hb⟩
  · have := hc 0 (by omega); rw [if_pos (by omega)] at this; rw [hy]; exact cell_of_one this
  · have := hc 1 (by omega); rw [if_pos (by omega)] at this; rw [hm]; exact cell_of_one this
  · have := hc 2 (by omega); rw [if_pos (by omega)] at this; rw [hd]; exact cell_of_one this

set_option maxRecDepth 100000 in
set_option maxHeartbeats 2000000 in
theorem Parse_noday (s : ByteArray) (h : s.size = 10) (y m d : Int) (hy : y = CalT.num (CalT.lst s.data.toList 0)) (hm : m = CalT.num (CalT.lst s.data.toList 1)) (hd : d = CalT.num (CalT.lst s.data.toList 2))
    (HD : Ret 15 #[.int .i64 y, .int .i64 m, .int .i64 d] (.tuple #[.int .i64 0, .int .i64 2])) : Ret 24 #[.string s] (.tuple #[.int .i64 0, .int .i64 2]) := by
  intro w0 w hS
  have HS := Lib.hid hS
  have HR := Lib.hid (fun w => read_four s (by omega) y m d hy hm hd w)
  have h' : ((s.size : Int) != 10) = false := by simp [h]
  clear hS h hy hm hd
  go_enter Tryd.func24, Tryd.ntmps24
  go_wp2_with (first
    | (go_at_call 45; refine (HR.out w).mono ?_; rintro e w1 ⟨rfl, c0, c1, c2, hb⟩; have HS1 := Lib.hid (HS.out.back hb); clear hb)
    | (go_at_call 15; ((with_reducible refine (HD.go HS1.out).mono ?_); rintro e w2 ⟨rfl, hs⟩; have HS2 := Lib.hid hs; clear hs)))
  go_ret2
  exact ⟨rfl, HS2.out⟩

set_option maxRecDepth 100000 in
set_option maxHeartbeats 2000000 in
theorem Parse_other (s : ByteArray) (h : s.size = 10) (y m d x : Int) (hy : y = CalT.num (CalT.lst s.data.toList 0)) (hm : m = CalT.num (CalT.lst s.data.toList 1)) (hd : d = CalT.num (CalT.lst s.data.toList 2))
    (HD : Ret 15 #[.int .i64 y, .int .i64 m, .int .i64 d] (.tuple #[.int .i64 x, .int .i64 0])) (t : ByteArray) (HT : Ret 35 #[.int .i64 x] (.string t)) (hne : t ≠ s) : Ret 24 #[.string s] (.tuple #[.int .i64 0, .int .i64 2]) := by
  intro w0 w hS
  have HS := Lib.hid hS
  have HR := Lib.hid (fun w => read_four s (by omega) y m d hy hm hd w)
  have h' : ((s.size : Int) != 10) = false := by simp [h]
  have hn1 : (!t.toList == s.toList) = true := by simp [str_ne hne]
  clear hne
  clear hS h hy hm hd
  go_enter Tryd.func24, Tryd.ntmps24
  go_wp2_with (first
    | (go_at_call 45; refine (HR.out w).mono ?_; rintro e w1 ⟨rfl, c0, c1, c2, hb⟩; have HS1 := Lib.hid (HS.out.back hb); clear hb)
    | (go_at_call 15; ((with_reducible refine (HD.go HS1.out).mono ?_); rintro e w2 ⟨rfl, hs⟩; have HS2 := Lib.hid hs; clear hs))
    | (go_at_call 35; ((with_reducible refine (HT.go HS2.out).mono ?_); rintro e w3 ⟨rfl, hs⟩; have HS3 := Lib.hid hs; clear hs)))
  go_ret2
  exact ⟨rfl, HS3.out⟩

set_option maxRecDepth 100000 in
set_option maxHeartbeats 2000000 in
theorem Parse_same (s : ByteArray) (h : s.size = 10) (y m d x : Int) (hy : y = CalT.num (CalT.lst s.data.toList 0)) (hm : m = CalT.num (CalT.lst s.data.toList 1)) (hd : d = CalT.num (CalT.lst s.data.toList 2))
    (HD : Ret 15 #[.int .i64 y, .int .i64 m, .int .i64 d] (.tuple #[.int .i64 x, .int .i64 0])) (HT : Ret 35 #[.int .i64 x] (.string s)) : Ret 24 #[.string s] (.tuple #[.int .i64 x, .int .i64 0]) := by
  intro w0 w hS
  have HS := Lib.hid hS
  have HR := Lib.hid (fun w => read_four s (by omega) y m d hy hm hd w)
  have h' : ((s.size : Int) != 10) = false := by simp [h]
  clear hS h hy hm hd
  go_enter Tryd.func24, Tryd.ntmps24
  go_wp2_with (first
    | (go_at_call 45; refine (HR.out w).mono ?_; rintro e w1 ⟨rfl, c0, c1, c2, hb⟩; have HS1 := Lib.hid (HS.out.back hb); clear hb)
    | (go_at_call 15; ((with_reducible refine (HD.go HS1.out).mono ?_); rintro e w2 ⟨rfl, hs⟩; have HS2 := Lib.hid hs; clear hs))
    | (go_at_call 35; ((with_reducible refine (HT.go HS2.out).mono ?_); rintro e w3 ⟨rfl, hs⟩; have HS3 := Lib.hid hs; clear hs)))
  go_ret2
  exact ⟨rfl, HS3.out⟩

/-- What 'Parse' answers. -/
theorem parse_is {s : ByteArray} {day : Int} (h0 : 0 ≤ day) (h1 : day < 65536) (h : s = txt day) : Ret 24 #[.string s] (.tuple #[.int .i64 day, .int .i64 0]) := by
  obtain ⟨n0, n1, n2⟩ := txt_nums h0 h1
  subst h
  have hb := Cal.date_back h0 h1
  have hd := r_day_yes _ _ _ hb.1
  rw [hb.2] at hd
  exact Parse_same (txt day) (txt_ten day) _ _ _ day n0.symm n1.symm n2.symm hd (r_text_yes day h0 h1)

theorem parse_not {s : ByteArray} (h : ∀ day : Int, 0 ≤ day → day < 65536 → s ≠ txt day) : Ret 24 #[.string s] (.tuple #[.int .i64 0, .int .i64 2]) := by
  by_cases h10 : s.size = 10
  · have hl : s.data.toList.length ≤ 10 := by simpa using (show s.size ≤ 10 by omega)
    have b1 := CalT.num_bd (CalT.lst s.data.toList 1) (by have := CalT.lst_len s.data.toList 1; omega)
    rcases Bool.eq_false_or_eq_true (Cal.dateB (CalT.num (CalT.lst s.data.toList 0)) (CalT.num (CalT.lst s.data.toList 1)) (CalT.num (CalT.lst s.data.toList 2))) with hd | hd
    · have bd := Cal.date_bd hd
      exact Parse_other s h10 _ _ _ _ rfl rfl rfl (r_day_yes _ _ _ hd) _ (r_text_yes _ bd.2.2.2.2.2.2.1 bd.2.2.2.2.2.2.2) (fun e => h _ bd.2.2.2.2.2.2.1 bd.2.2.2.2.2.2.2 e.symm)
    · exact Parse_noday s h10 _ _ _ rfl rfl rfl (r_day_no _ _ _ (by omega) hd)
  · exact fun w0 w hS => Parse_short s (by simp; omega) hS

end Go.Proofs.YtmjmpdbkijhkiaaDoor
