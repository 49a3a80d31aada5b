/-
'Parse': every text.
-/
import Derived.Test.YtodmbklednehbaaSizeOf
import Derived.Test.YtodmbklednehbaaValid
import Derived.Test.YtodmbklednehbaaDivided
import Derived.Test.YtodmbklednehbaaDivMod
import Derived.Outline
namespace Go.Proofs.Ytodmbklednehbaa
open Go.RowKit Wh

theorem are_pure (d : ByteArray) (b : Bool) (hs : d.size ≤ maxLen) (hb : (d.data.toList.all isDig && decide (0 < d.size)) = b) (w : World) :
    Calls Try.prog 50 #[.string d] w fun e w' => e = .returned (.bool b) ∧ w = w' := by
  subst hb; exact areDigits_any d hs w

theorem size_made (d : ByteArray) (n : Nat) (hs : d.size ≤ 5120) (hd : ∀ c ∈ d.data.toList, isDig c = true) (hn : n = dv d.data.toList) (w : World) :
    Calls Try.prog 51 #[.string d] w fun e w' => (∃ a c, e = .returned (.slice a (dig n).length c) ∧ LimF w.heap.size w' (.slice a (dig n).length c) (dig n)) ∧ Below w.heap.size w w' := by
  subst hn
  refine (sizeOf_any d hs hd w).mono ?_
  rintro e w' ⟨⟨v, rfl, hl⟩, hB⟩
  obtain ⟨a, c, rfl⟩ := lf_slice hl
  exact ⟨⟨a, c, rfl, hl⟩, hB⟩

set_option maxRecDepth 100000 in
set_option maxHeartbeats 2000000 in
theorem parse_pos_digits (s d : ByteArray) (h0 : 0 < s.size) (hc : ((s[0].toNat : Int) == 45) = false) (hd : s = d) (hdl : d.size ≤ maxLen) (ha : (d.data.toList.all isDig && decide (0 < d.size)) = false) (w : World) :
    Calls Try.prog 23 #[.string s] w fun e w' => e = .returned (.tuple #[zeroW, .int .i64 10]) ∧ Below w.heap.size w w' := by
  have HA := Lib.hid (fun W => are_pure d _ hdl ha W)
  have hz2 := (Below.refl w.heap.size w).alloc (Nat.le_refl _) (.cells #[.bool false, .slice none 0 0] 26)
  have HD := Lib.hid hd
  subst hd
  clear ha HD
  go_enter Try.func23, Try.ntmps23
  go_wp2_with fail
  refine (HA.out _).mono ?_
  rintro e w2 ⟨rfl, rfl⟩
  go_wp2
  exact bodyPost_ret (v := .tuple #[zeroW, .int .i64 10]) (by simp [results, Try.results23, go_sem]) rfl ⟨rfl, hz2⟩

set_option maxRecDepth 100000 in
set_option maxHeartbeats 2000000 in
theorem parse_pos_zero (s d : ByteArray) (h0 : 0 < s.size) (hd : s = d) (hdl : d.size ≤ maxLen) (ha : (d.data.toList.all isDig && decide (0 < d.size)) = true) (hd0 : 0 < d.size) (hz : d[0].toNat = 48) (hne : (s.toList == [48]) = false) (w : World) :
    Calls Try.prog 23 #[.string s] w fun e w' => e = .returned (.tuple #[zeroW, .int .i64 10]) ∧ Below w.heap.size w w' := by
  have HA := Lib.hid (fun W => are_pure d _ hdl ha W)
  have hz2 := (Below.refl w.heap.size w).alloc (Nat.le_refl _) (.cells #[.bool false, .slice none 0 0] 26)
  have HD := Lib.hid hd
  subst hd
  clear ha HD
  go_enter Try.func23, Try.ntmps23
  go_wp2_with fail
  refine (HA.out _).mono ?_
  rintro e w2 ⟨rfl, rfl⟩
  go_wp2
  exact bodyPost_ret (v := .tuple #[zeroW, .int .i64 10]) (by simp [results, Try.results23, go_sem]) rfl ⟨rfl, hz2⟩

set_option maxRecDepth 100000 in
set_option maxHeartbeats 2000000 in
theorem parse_pos_wide (s d : ByteArray) (h0 : 0 < s.size) (hc : ((s[0].toNat : Int) == 45) = false) (hd : s = d) (hdl : d.size ≤ maxLen) (ha : (d.data.toList.all isDig && decide (0 < d.size)) = true) (hd0 : 0 < d.size) (hz : ((d[0].toNat : Int) == 48) = false) (hw : 5120 < (d.size : Int)) (w : World) :
    Calls Try.prog 23 #[.string s] w fun e w' => e = .returned (.tuple #[zeroW, .int .i64 3]) ∧ Below w.heap.size w w' := by
  have HA := Lib.hid (fun W => are_pure d _ hdl ha W)
  have hz2 := (Below.refl w.heap.size w).alloc (Nat.le_refl _) (.cells #[.bool false, .slice none 0 0] 26)
  have HD := Lib.hid hd
  subst hd
  clear ha HD
  go_enter Try.func23, Try.ntmps23
  go_wp2_with fail
  refine (HA.out _).mono ?_
  rintro e w2 ⟨rfl, rfl⟩
  go_wp2
  exact bodyPost_ret (v := .tuple #[zeroW, .int .i64 3]) (by simp [results, Try.results23, go_sem]) rfl ⟨rfl, hz2⟩

set_option maxRecDepth 100000 in
set_option maxHeartbeats 2000000 in
theorem parse_pos_long (s d : ByteArray) (hs : s.size ≤ 9223372036854775807) (h0 : 0 < s.size) (hc : ((s[0].toNat : Int) == 45) = false) (hd : s = d) (hdl : d.size ≤ maxLen) (ha : (d.data.toList.all isDig && decide (0 < d.size)) = true) (hd0 : 0 < d.size) (hz : ((d[0].toNat : Int) == 48) = false) (hw : ¬ 5120 < (d.size : Int)) (n : Nat) (hn : n = dv d.data.toList) (hl : 1024 < (dig n).length) (w : World) :
    Calls Try.prog 23 #[.string s] w fun e w' => e = .returned (.tuple #[zeroW, .int .i64 3]) ∧ Below w.heap.size w w' := by
  have HA := Lib.hid (fun W => are_pure d _ hdl ha W)
  have hz2 := (Below.refl w.heap.size w).alloc (Nat.le_refl _) (.cells #[.bool false, .slice none 0 0] 26)
  have HS := Lib.hid (fun W => size_made d n (by omega) (fun c hc => by have := ha; simp only [Bool.and_eq_true, List.all_eq_true] at this; exact this.1 c hc) hn W)
  obtain ⟨j, hj⟩ : ∃ j, j = (dig n).length := ⟨_, rfl⟩
  rw [← hj] at HS hl
  have hl2 : 1024 < (j : Int) := by omega
  have x0 := Bx.new w (.bool false) (.slice none 0 0)
  clear hn hj
  have HD := Lib.hid hd
  subst hd
  clear ha HD
  go_enter Try.func23, Try.ntmps23
  go_wp2_with fail
  refine (HA.out _).mono ?_
  rintro e w2 ⟨rfl, rfl⟩
  go_wp2_with fail
  refine (HS.out _).mono ?_
  rintro e w3 ⟨⟨a, c, rfl, hv⟩, hb3⟩
  have hB3 := hz2.trans (hb3.mono hz2.size)
  have x3 := x0.on hb3
  obtain ⟨p3, p3'⟩ := x3.cells
  obtain ⟨f3, f3'⟩ := x3.free
  go_wp2
  obtain ⟨k4, k4'⟩ := (x3.put (.bool false) (.slice none 0 0)).cells
  exact bodyPost_ret (v := .tuple #[zeroW, .int .i64 3]) (by simp [results, Try.results23, go_sem, k4, k4']) rfl ⟨rfl, Below.put hB3 (Nat.le_refl _) _ _⟩

set_option maxRecDepth 100000 in
set_option maxHeartbeats 2000000 in
theorem parse_pos_ok (s d : ByteArray) (hs : s.size ≤ 9223372036854775807) (h0 : 0 < s.size) (hc : ((s[0].toNat : Int) == 45) = false) (hd : s = d) (hdl : d.size ≤ maxLen) (ha : (d.data.toList.all isDig && decide (0 < d.size)) = true) (hd0 : 0 < d.size) (hz : ((d[0].toNat : Int) == 48) = false) (hw : ¬ 5120 < (d.size : Int)) (n : Nat) (hn : n = dv d.data.toList) (hl : (dig n).length ≤ 1024) (w : World) :
    Calls Try.prog 23 #[.string s] w fun e w' => (∃ v, e = .returned (.tuple #[v, .int .i64 0]) ∧ Num w' v ((n : Int))) ∧ Below w.heap.size w w' := by
  have HA := Lib.hid (fun W => are_pure d _ hdl ha W)
  have hz2 := (Below.refl w.heap.size w).alloc (Nat.le_refl _) (.cells #[.bool false, .slice none 0 0] 26)
  have HS := Lib.hid (fun W => size_made d n (by omega) (fun c hc => by have := ha; simp only [Bool.and_eq_true, List.all_eq_true] at this; exact this.1 c hc) hn W)
  obtain ⟨j, hj⟩ : ∃ j, j = (dig n).length := ⟨_, rfl⟩
  rw [← hj] at HS hl
  have HNm := Lib.hid (fun s W (h : Lim W s (dig n)) => number_any false s (dig n) W h)
  have hl2 : ¬ 1024 < (j : Int) := by omega
  have x0 := Bx.new w (.bool false) (.slice none 0 0)
  clear hn hj
  have HD := Lib.hid hd
  subst hd
  clear ha HD
  go_enter Try.func23, Try.ntmps23
  go_wp2_with fail
  refine (HA.out _).mono ?_
  rintro e w2 ⟨rfl, rfl⟩
  go_wp2_with fail
  refine (HS.out _).mono ?_
  rintro e w3 ⟨⟨a, c, rfl, hv⟩, hb3⟩
  have hB3 := hz2.trans (hb3.mono hz2.size)
  have x3 := x0.on hb3
  obtain ⟨p3, p3'⟩ := x3.cells
  obtain ⟨f3, f3'⟩ := x3.free
  go_wp2_with fail
  refine (HNm.out _ _ hv.1).mono ?_
  rintro e w4 ⟨rfl, hb4⟩
  have hB4 := hB3.trans (hb4.mono hB3.size)
  have hv4 := hv.below hb4
  have x4 := x3.on hb4
  clear p3 p3' f3 f3'
  obtain ⟨p4, p4'⟩ := x4.cells
  obtain ⟨f4, f4'⟩ := x4.free
  go_wp2
  obtain ⟨k4, k4'⟩ := (x4.put (.bool false) (.slice a j c)).cells
  have hl4 := hv4.1.put x4 (.bool false) (.slice a j c)
  exact bodyPost_ret (v := .tuple #[.agg #[.bool false, .slice a j c], .int .i64 0]) (by simp [results, Try.results23, go_sem, k4, k4']) rfl ⟨⟨_, rfl, ⟨_, by rw [decide_eq_false (show ¬ (n : Int) < 0 by omega)], by rw [Int.natAbs_natCast]; exact hl4⟩⟩, Below.put hB4 (Nat.le_refl _) _ _⟩

set_option maxRecDepth 100000 in
set_option maxHeartbeats 2000000 in
theorem parse_pos_empty (s d : ByteArray) (h0 : s.size = 0) (hd : s = d) (hdl : d.size ≤ maxLen) (ha : (d.data.toList.all isDig && decide (0 < d.size)) = false) (w : World) :
    Calls Try.prog 23 #[.string s] w fun e w' => e = .returned (.tuple #[zeroW, .int .i64 10]) ∧ Below w.heap.size w w' := by
  have HA := Lib.hid (fun W => are_pure d _ hdl ha W)
  have hz2 := (Below.refl w.heap.size w).alloc (Nat.le_refl _) (.cells #[.bool false, .slice none 0 0] 26)
  have HD := Lib.hid hd
  subst hd
  clear ha HD
  go_enter Try.func23, Try.ntmps23
  go_wp2_with fail
  refine (HA.out _).mono ?_
  rintro e w2 ⟨rfl, rfl⟩
  go_wp2
  exact bodyPost_ret (v := .tuple #[zeroW, .int .i64 10]) (by simp [results, Try.results23, go_sem]) rfl ⟨rfl, hz2⟩

set_option maxRecDepth 100000 in
set_option maxHeartbeats 2000000 in
theorem parse_pos_nought (s d : ByteArray) (hs : s.size ≤ 9223372036854775807) (h0 : 0 < s.size) (hd : s = d) (hdl : d.size ≤ maxLen) (ha : (d.data.toList.all isDig && decide (0 < d.size)) = true) (hd0 : 0 < d.size) (hz : d[0].toNat = 48) (hne : (s.toList == [48]) = true) (hw : ¬ 5120 < (d.size : Int)) (n : Nat) (hn : n = dv d.data.toList) (hl : (dig n).length ≤ 1024) (w : World) :
    Calls Try.prog 23 #[.string s] w fun e w' => (∃ v, e = .returned (.tuple #[v, .int .i64 0]) ∧ Num w' v ((n : Int))) ∧ Below w.heap.size w w' := by
  have HA := Lib.hid (fun W => are_pure d _ hdl ha W)
  have hz2 := (Below.refl w.heap.size w).alloc (Nat.le_refl _) (.cells #[.bool false, .slice none 0 0] 26)
  have HS := Lib.hid (fun W => size_made d n (by omega) (fun c hc => by have := ha; simp only [Bool.and_eq_true, List.all_eq_true] at this; exact this.1 c hc) hn W)
  obtain ⟨j, hj⟩ : ∃ j, j = (dig n).length := ⟨_, rfl⟩
  rw [← hj] at HS hl
  have HNm := Lib.hid (fun s W (h : Lim W s (dig n)) => number_any false s (dig n) W h)
  have hl2 : ¬ 1024 < (j : Int) := by omega
  have x0 := Bx.new w (.bool false) (.slice none 0 0)
  clear hn hj
  have HD := Lib.hid hd
  subst hd
  clear ha HD
  go_enter Try.func23, Try.ntmps23
  go_wp2_with fail
  refine (HA.out _).mono ?_
  rintro e w2 ⟨rfl, rfl⟩
  go_wp2_with fail
  refine (HS.out _).mono ?_
  rintro e w3 ⟨⟨a, c, rfl, hv⟩, hb3⟩
  have hB3 := hz2.trans (hb3.mono hz2.size)
  have x3 := x0.on hb3
  obtain ⟨p3, p3'⟩ := x3.cells
  obtain ⟨f3, f3'⟩ := x3.free
  go_wp2_with fail
  refine (HNm.out _ _ hv.1).mono ?_
  rintro e w4 ⟨rfl, hb4⟩
  have hB4 := hB3.trans (hb4.mono hB3.size)
  have hv4 := hv.below hb4
  have x4 := x3.on hb4
  clear p3 p3' f3 f3'
  obtain ⟨p4, p4'⟩ := x4.cells
  obtain ⟨f4, f4'⟩ := x4.free
  go_wp2
  obtain ⟨k4, k4'⟩ := (x4.put (.bool false) (.slice a j c)).cells
  have hl4 := hv4.1.put x4 (.bool false) (.slice a j c)
  exact bodyPost_ret (v := .tuple #[.agg #[.bool false, .slice a j c], .int .i64 0]) (by simp [results, Try.results23, go_sem, k4, k4']) rfl ⟨⟨_, rfl, ⟨_, by rw [decide_eq_false (show ¬ (n : Int) < 0 by omega)], by rw [Int.natAbs_natCast]; exact hl4⟩⟩, Below.put hB4 (Nat.le_refl _) _ _⟩

set_option maxRecDepth 100000 in
set_option maxHeartbeats 2000000 in
theorem parse_neg_digits (s d : ByteArray) (hs : s.size ≤ 9223372036854775807) (h0 : 0 < s.size) (hc : s[0].toNat = 45) (hd : s.extract 1 s.size = d) (hdl : d.size ≤ maxLen) (ha : (d.data.toList.all isDig && decide (0 < d.size)) = false) (w : World) :
    Calls Try.prog 23 #[.string s] w fun e w' => e = .returned (.tuple #[zeroW, .int .i64 10]) ∧ Below w.heap.size w w' := by
  have HA := Lib.hid (fun W => are_pure d _ hdl ha W)
  have hz2 := (Below.refl w.heap.size w).alloc (Nat.le_refl _) (.cells #[.bool false, .slice none 0 0] 26)
  have HD := Lib.hid hd
  clear hd ha
  go_enter Try.func23, Try.ntmps23
  go_wp2_with fail
  rw [HD.out]
  refine (HA.out _).mono ?_
  rintro e w2 ⟨rfl, rfl⟩
  go_wp2
  exact bodyPost_ret (v := .tuple #[zeroW, .int .i64 10]) (by simp [results, Try.results23, go_sem]) rfl ⟨rfl, hz2⟩

set_option maxRecDepth 100000 in
set_option maxHeartbeats 2000000 in
theorem parse_neg_zero (s d : ByteArray) (hs : s.size ≤ 9223372036854775807) (h0 : 0 < s.size) (hc : s[0].toNat = 45) (hd : s.extract 1 s.size = d) (hdl : d.size ≤ maxLen) (ha : (d.data.toList.all isDig && decide (0 < d.size)) = true) (hd0 : 0 < d.size) (hz : d[0].toNat = 48) (hne : (s.toList == [48]) = false) (w : World) :
    Calls Try.prog 23 #[.string s] w fun e w' => e = .returned (.tuple #[zeroW, .int .i64 10]) ∧ Below w.heap.size w w' := by
  have HA := Lib.hid (fun W => are_pure d _ hdl ha W)
  have hz2 := (Below.refl w.heap.size w).alloc (Nat.le_refl _) (.cells #[.bool false, .slice none 0 0] 26)
  have HD := Lib.hid hd
  clear hd ha
  go_enter Try.func23, Try.ntmps23
  go_wp2_with fail
  rw [HD.out]
  refine (HA.out _).mono ?_
  rintro e w2 ⟨rfl, rfl⟩
  go_wp2
  exact bodyPost_ret (v := .tuple #[zeroW, .int .i64 10]) (by simp [results, Try.results23, go_sem]) rfl ⟨rfl, hz2⟩

set_option maxRecDepth 100000 in
set_option maxHeartbeats 2000000 in
theorem parse_neg_wide (s d : ByteArray) (hs : s.size ≤ 9223372036854775807) (h0 : 0 < s.size) (hc : s[0].toNat = 45) (hd : s.extract 1 s.size = d) (hdl : d.size ≤ maxLen) (ha : (d.data.toList.all isDig && decide (0 < d.size)) = true) (hd0 : 0 < d.size) (hz : ((d[0].toNat : Int) == 48) = false) (hw : 5120 < (d.size : Int)) (w : World) :
    Calls Try.prog 23 #[.string s] w fun e w' => e = .returned (.tuple #[zeroW, .int .i64 3]) ∧ Below w.heap.size w w' := by
  have HA := Lib.hid (fun W => are_pure d _ hdl ha W)
  have hz2 := (Below.refl w.heap.size w).alloc (Nat.le_refl _) (.cells #[.bool false, .slice none 0 0] 26)
  have HD := Lib.hid hd
  clear hd ha
  go_enter Try.func23, Try.ntmps23
  go_wp2_with fail
  rw [HD.out]
  refine (HA.out _).mono ?_
  rintro e w2 ⟨rfl, rfl⟩
  go_wp2
  exact bodyPost_ret (v := .tuple #[zeroW, .int .i64 3]) (by simp [results, Try.results23, go_sem]) rfl ⟨rfl, hz2⟩

set_option maxRecDepth 100000 in
set_option maxHeartbeats 2000000 in
theorem parse_neg_long (s d : ByteArray) (hs : s.size ≤ 9223372036854775807) (h0 : 0 < s.size) (hc : s[0].toNat = 45) (hd : s.extract 1 s.size = d) (hdl : d.size ≤ maxLen) (ha : (d.data.toList.all isDig && decide (0 < d.size)) = true) (hd0 : 0 < d.size) (hz : ((d[0].toNat : Int) == 48) = false) (hw : ¬ 5120 < (d.size : Int)) (n : Nat) (hn : n = dv d.data.toList) (hl : 1024 < (dig n).length) (w : World) :
    Calls Try.prog 23 #[.string s] w fun e w' => e = .returned (.tuple #[zeroW, .int .i64 3]) ∧ Below w.heap.size w w' := by
  have HA := Lib.hid (fun W => are_pure d _ hdl ha W)
  have hz2 := (Below.refl w.heap.size w).alloc (Nat.le_refl _) (.cells #[.bool false, .slice none 0 0] 26)
  have HS := Lib.hid (fun W => size_made d n (by omega) (fun c hc => by have := ha; simp only [Bool.and_eq_true, List.all_eq_true] at this; exact this.1 c hc) hn W)
  obtain ⟨j, hj⟩ : ∃ j, j = (dig n).length := ⟨_, rfl⟩
  rw [← hj] at HS hl
  have hl2 : 1024 < (j : Int) := by omega
  have x0 := Bx.new w (.bool false) (.slice none 0 0)
  clear hn hj
  have HD := Lib.hid hd
  clear hd ha
  go_enter Try.func23, Try.ntmps23
  go_wp2_with fail
  rw [HD.out]
  refine (HA.out _).mono ?_
  rintro e w2 ⟨rfl, rfl⟩
  go_wp2_with fail
  refine (HS.out _).mono ?_
  rintro e w3 ⟨⟨a, c, rfl, hv⟩, hb3⟩
  have hB3 := hz2.trans (hb3.mono hz2.size)
  have x3 := x0.on hb3
  obtain ⟨p3, p3'⟩ := x3.cells
  obtain ⟨f3, f3'⟩ := x3.free
  go_wp2
  obtain ⟨k4, k4'⟩ := (x3.put (.bool false) (.slice none 0 0)).cells
  exact bodyPost_ret (v := .tuple #[zeroW, .int .i64 3]) (by simp [results, Try.results23, go_sem, k4, k4']) rfl ⟨rfl, Below.put hB3 (Nat.le_refl _) _ _⟩

set_option maxRecDepth 100000 in
set_option maxHeartbeats 2000000 in
theorem parse_neg_ok (s d : ByteArray) (hs : s.size ≤ 9223372036854775807) (h0 : 0 < s.size) (hc : s[0].toNat = 45) (hd : s.extract 1 s.size = d) (hdl : d.size ≤ maxLen) (ha : (d.data.toList.all isDig && decide (0 < d.size)) = true) (hd0 : 0 < d.size) (hz : ((d[0].toNat : Int) == 48) = false) (hw : ¬ 5120 < (d.size : Int)) (n : Nat) (hn : n = dv d.data.toList) (hl : (dig n).length ≤ 1024) (w : World) :
    Calls Try.prog 23 #[.string s] w fun e w' => (∃ v, e = .returned (.tuple #[v, .int .i64 0]) ∧ Num w' v (-(n : Int))) ∧ Below w.heap.size w w' := by
  have HA := Lib.hid (fun W => are_pure d _ hdl ha W)
  have hz2 := (Below.refl w.heap.size w).alloc (Nat.le_refl _) (.cells #[.bool false, .slice none 0 0] 26)
  have HS := Lib.hid (fun W => size_made d n (by omega) (fun c hc => by have := ha; simp only [Bool.and_eq_true, List.all_eq_true] at this; exact this.1 c hc) hn W)
  obtain ⟨j, hj⟩ : ∃ j, j = (dig n).length := ⟨_, rfl⟩
  rw [← hj] at HS hl
  obtain ⟨bb, hbb⟩ : ∃ bb : Bool, bb = decide (-(n : Int) < 0) := ⟨_, rfl⟩
  have hNm := fun s W (h : Lim W s (dig n)) => number_any true s (dig n) W h
  rw [neg_nat_sign, ← hbb] at hNm
  have HNm := Lib.hid hNm
  clear hNm
  replace hbb := Lib.hid hbb
  have hl2 : ¬ 1024 < (j : Int) := by omega
  have x0 := Bx.new w (.bool false) (.slice none 0 0)
  clear hn hj
  have HD := Lib.hid hd
  clear hd ha
  go_enter Try.func23, Try.ntmps23
  go_wp2_with fail
  rw [HD.out]
  refine (HA.out _).mono ?_
  rintro e w2 ⟨rfl, rfl⟩
  go_wp2_with fail
  refine (HS.out _).mono ?_
  rintro e w3 ⟨⟨a, c, rfl, hv⟩, hb3⟩
  have hB3 := hz2.trans (hb3.mono hz2.size)
  have x3 := x0.on hb3
  obtain ⟨p3, p3'⟩ := x3.cells
  obtain ⟨f3, f3'⟩ := x3.free
  go_wp2_with fail
  refine (HNm.out _ _ hv.1).mono ?_
  rintro e w4 ⟨rfl, hb4⟩
  have hB4 := hB3.trans (hb4.mono hB3.size)
  have hv4 := hv.below hb4
  have x4 := x3.on hb4
  clear p3 p3' f3 f3'
  obtain ⟨p4, p4'⟩ := x4.cells
  obtain ⟨f4, f4'⟩ := x4.free
  go_wp2
  obtain ⟨k4, k4'⟩ := (x4.put (.bool bb) (.slice a j c)).cells
  have hl4 := hv4.1.put x4 (.bool bb) (.slice a j c)
  exact bodyPost_ret (v := .tuple #[.agg #[.bool bb, .slice a j c], .int .i64 0]) (by simp [results, Try.results23, go_sem, k4, k4']) rfl ⟨⟨_, rfl, ⟨_, by rw [hbb.out], by rw [Int.natAbs_neg, Int.natAbs_natCast]; exact hl4⟩⟩, Below.put hB4 (Nat.le_refl _) _ _⟩


/-- A text has a minus sign; its digits; it is a decimal form; its number. -/
def tneg (l : List UInt8) : Bool := l.head? == some 45
def tds (l : List UInt8) : List UInt8 := if tneg l then l.drop 1 else l
def twf (l : List UInt8) : Bool := (tds l).all isDig && decide (0 < (tds l).length) && !((tds l).head? == some 48 && !(l == [48]))
def tval (l : List UInt8) : Int := if tneg l then -(dv (tds l) : Int) else (dv (tds l) : Int)

end Go.Proofs.Ytodmbklednehbaa
