/-
The examples of the chapter ('awake').
-/
import Derived.Test.YtanlaejdibikiaaGreatSame
namespace Go.Proofs.YtanlaejdibikiaaGreat
open Go.RowKit Go.Shelf Sp

/-- Whether l is a set: reckoned. -/
def chainB : Int → L → Bool
  | _, [] => true
  | lo, s :: t => decide (lo < s.1) && decide (s.1 < s.2) && decide (s.2 ≤ 65536) && chainB s.2 t
theorem chainB_iff (l : L) : ∀ lo, chainB lo l = true ↔ Chain lo l := by
  induction l with
  | nil => intro lo; simp [chainB, Chain]
  | cons s t ih => intro lo; simp [chainB, Chain, ih, and_assoc]
theorem setB_iff (l : L) : chainB (-1) l = true ↔ IsSet l := chainB_iff l _

theorem Union_lit {va vb : Value} {a b r : L} {w : World} (ha : chainB (-1) a = true) (hb : chainB (-1) b = true) (hr : comb opU a b = r) (hla : Spn w va a) (hlb : Spn w vb b) : Calls Tryz.prog 14 #[va, vb] w (Gives r w) := by
  have := Union_ok va vb a b ((setB_iff a).1 ha) ((setB_iff b).1 hb) w hla hlb
  rwa [hr] at this
theorem Meet_lit {va vb : Value} {a b r : L} {w : World} (ha : chainB (-1) a = true) (hb : chainB (-1) b = true) (hr : comb opM a b = r) (hla : Spn w va a) (hlb : Spn w vb b) : Calls Tryz.prog 15 #[va, vb] w (Gives r w) := by
  have := Meet_ok va vb a b ((setB_iff a).1 ha) ((setB_iff b).1 hb) w hla hlb
  rwa [hr] at this
theorem Minus_lit {va vb : Value} {a b r : L} {w : World} (ha : chainB (-1) a = true) (hb : chainB (-1) b = true) (hr : comb opD a b = r) (hla : Spn w va a) (hlb : Spn w vb b) : Calls Tryz.prog 16 #[va, vb] w (Gives r w) := by
  have := Minus_ok va vb a b ((setB_iff a).1 ha) ((setB_iff b).1 hb) w hla hlb
  rwa [hr] at this
theorem Bridge_lit {v : Value} {l r : L} {d : Int} {w : World} (h0 : 0 ≤ d) (h9 : d ≤ 9223372036854775807) (hl : chainB (-1) l = true) (hr : bridge d l = r) (h : Spn w v l) : Calls Tryz.prog 24 #[v, .int .i64 d] w (Gives r w) := by
  have := Bridge_ok v l d h0 h9 ((setB_iff l).1 hl) w h
  rwa [hr] at this
theorem Make_lit {v : Value} {l r : L} {w : World} (hl : l.all (fun s => okB s.1 s.2) = true) (hr : make l = r) (h : Spn w v l) : Calls Tryz.prog 25 #[v] w (Gives r w) := by
  have := Make_ok v l (fun s hs => List.all_eq_true.1 hl s hs) w h
  rwa [hr] at this
theorem Nth_some {v : Value} {l : L} {n d : Int} {w : World} (h0 : 0 ≤ n) (h9 : n ≤ 9223372036854775807) (hl : chainB (-1) l = true) (hr : nthO l n = some d) (h : Spn w v l) : Calls Tryz.prog 26 #[v, .int .i64 n] w (Says (.tuple #[.int .i64 d, .bool true]) w) := by
  have := Nth_yes v l n h0 h9 ((setB_iff l).1 hl) w h
  rwa [hr] at this
theorem Nth_none {v : Value} {l : L} {n : Int} {w : World} (h0 : 0 ≤ n) (h9 : n ≤ 9223372036854775807) (hl : chainB (-1) l = true) (hr : nthO l n = none) (h : Spn w v l) : Calls Tryz.prog 26 #[v, .int .i64 n] w (Says (.tuple #[.int .i64 0, .bool false]) w) := by
  have := Nth_yes v l n h0 h9 ((setB_iff l).1 hl) w h
  rwa [hr] at this
theorem Days_lit {v : Value} {l : L} {r : Int} {w : World} (hl : chainB (-1) l = true) (hr : beforeN l 65536 = r) (h : Spn w v l) : Calls Tryz.prog 27 #[v] w (Says (.int .i64 r) w) := by
  have := Days_yes v l ((setB_iff l).1 hl) w h
  rwa [hr] at this
theorem Before_lit {v : Value} {l : L} {d r : Int} {w : World} (hd : -9223372036854775808 ≤ d ∧ d ≤ 9223372036854775807) (hl : chainB (-1) l = true) (hr : beforeN l d = r) (h : Spn w v l) : Calls Tryz.prog 28 #[v, .int .i64 d] w (Says (.int .i64 r) w) := by
  have := Before_yes v l d hd ((setB_iff l).1 hl) w h
  rwa [hr] at this
theorem Valid_lit {v : Value} {l : L} {r : Bool} {w : World} (hl : chainB (-1) l = r) (h : Spn w v l) : Calls Tryz.prog 29 #[v] w (Says (.bool r) w) := by
  have := Valid_any v l w h
  rwa [show vldB l = r from by rw [Bool.eq_iff_iff, vldB_iff, ← setB_iff, hl]] at this
theorem Same_eq {va vb : Value} {a b : L} {w : World} (he : a = b) (hla : Spn w va a) (hlb : Spn w vb b) : Calls Tryz.prog 22 #[va, vb] w (Says (.bool true) w) := by
  have := Same_any va vb a b w hla hlb
  rwa [show decide (a = b) = true from by simpa using he] at this
theorem Same_ne {va vb : Value} {a b : L} {w : World} (he : ¬ a = b) (hla : Spn w va a) (hlb : Spn w vb b) : Calls Tryz.prog 22 #[va, vb] w (Says (.bool false) w) := by
  have := Same_any va vb a b w hla hlb
  rwa [show decide (a = b) = false from by simpa using he] at this

set_option maxRecDepth 100000 in
set_option maxHeartbeats 8000000 in
theorem awake_any (w : World) : Calls Tryz.prog 7 #[] w (Says (.bool true) w) := by
  have HB := Lib.hid (Below.refl w.heap.size w)
  go_enter Tryz.func7, Tryz.ntmps7
  go_wp2_with fail
  refine (to_any 0 10 _).mono ?_
  rintro e w1 ⟨rfl, hb⟩
  replace HB := Lib.hid (HB.out.trans (hb.mono HB.out.size))
  clear hb
  go_wp2_with fail
  refine (to_any 20 30 _).mono ?_
  rintro e w2 ⟨rfl, hb⟩
  replace HB := Lib.hid (HB.out.trans (hb.mono HB.out.size))
  clear hb
  go_wp2_with fail
  have Ha := Lib.hid (Spn.of_owns (own_lit w2 w2.heap.size (Nat.le_refl _) [(0, 10), (20, 30)] (by simp)) (by simp))
  have hba := (Below.refl w2.heap.size w2).alloc (Nat.le_refl _) (.cells #[.int .i64 0, .int .i64 10, .int .i64 20, .int .i64 30] 31)
  change Hid (Spn (w2.alloc (.cells #[.int .i64 0, .int .i64 10, .int .i64 20, .int .i64 30] 31)) (.slice (some ⟨w2.heap.size, 0, none⟩) 2 2) [(0, 10), (20, 30)]) at Ha
  obtain ⟨w3, hw⟩ : ∃ W, w2.alloc (.cells #[.int .i64 0, .int .i64 10, .int .i64 20, .int .i64 30] 31) = W := ⟨_, rfl⟩
  rw [hw] at hba Ha ⊢
  clear hw
  replace HB := Lib.hid (HB.out.trans (hba.mono HB.out.size))
  clear hba
  refine (set_any _ _ _ _).mono ?_
  rintro e w' ⟨rfl, rfl⟩
  go_wp2_with fail
  refine (to_any 5 25 _).mono ?_
  rintro e w4 ⟨rfl, hb⟩
  replace Ha := Lib.hid (Ha.out.below hb (Nat.le_refl _))
  replace HB := Lib.hid (HB.out.trans (hb.mono HB.out.size))
  clear hb
  go_wp2_with fail
  have Hb := Lib.hid (Spn.of_owns (own_lit w4 w4.heap.size (Nat.le_refl _) [(5, 25)] (by simp)) (by simp))
  have hba := (Below.refl w4.heap.size w4).alloc (Nat.le_refl _) (.cells #[.int .i64 5, .int .i64 25] 31)
  change Hid (Spn (w4.alloc (.cells #[.int .i64 5, .int .i64 25] 31)) (.slice (some ⟨w4.heap.size, 0, none⟩) 1 1) [(5, 25)]) at Hb
  obtain ⟨w5, hw⟩ : ∃ W, w4.alloc (.cells #[.int .i64 5, .int .i64 25] 31) = W := ⟨_, rfl⟩
  rw [hw] at hba Hb ⊢
  clear hw
  replace Ha := Lib.hid (Ha.out.below hba (Nat.le_refl _))
  replace HB := Lib.hid (HB.out.trans (hba.mono HB.out.size))
  clear hba
  refine (set_any _ _ _ _).mono ?_
  rintro e w' ⟨rfl, rfl⟩
  go_wp2_with fail
  refine (Union_lit (r := [(0, 30)]) (by decide +kernel) (by decide +kernel) (by decide +kernel) Ha.out Hb.out).mono ?_
  rintro e w6 ⟨⟨vx, rfl, ho⟩, hb⟩
  replace Ha := Lib.hid (Ha.out.below hb (Nat.le_refl _))
  replace Hb := Lib.hid (Hb.out.below hb (Nat.le_refl _))
  replace HB := Lib.hid (HB.out.trans (hb.mono HB.out.size))
  have Hx := Lib.hid (Spn.of_owns ho (by simp))
  clear ho
  clear hb
  go_wp2_with fail
  refine (Meet_lit (r := [(5, 10), (20, 25)]) (by decide +kernel) (by decide +kernel) (by decide +kernel) Ha.out Hb.out).mono ?_
  rintro e w7 ⟨⟨vy, rfl, ho⟩, hb⟩
  replace Ha := Lib.hid (Ha.out.below hb (Nat.le_refl _))
  replace Hb := Lib.hid (Hb.out.below hb (Nat.le_refl _))
  replace Hx := Lib.hid (Hx.out.below hb (Nat.le_refl _))
  replace HB := Lib.hid (HB.out.trans (hb.mono HB.out.size))
  have Hy := Lib.hid (Spn.of_owns ho (by simp))
  clear ho
  clear hb
  go_wp2_with fail
  refine (Minus_lit (r := [(0, 5), (25, 30)]) (by decide +kernel) (by decide +kernel) (by decide +kernel) Ha.out Hb.out).mono ?_
  rintro e w8 ⟨⟨vz, rfl, ho⟩, hb⟩
  replace Ha := Lib.hid (Ha.out.below hb (Nat.le_refl _))
  replace Hb := Lib.hid (Hb.out.below hb (Nat.le_refl _))
  replace Hx := Lib.hid (Hx.out.below hb (Nat.le_refl _))
  replace Hy := Lib.hid (Hy.out.below hb (Nat.le_refl _))
  replace HB := Lib.hid (HB.out.trans (hb.mono HB.out.size))
  have Hz := Lib.hid (Spn.of_owns ho (by simp))
  clear ho
  clear hb
  go_wp2_with fail
  refine (Bridge_lit (r := [(0, 30)]) (by omega) (by omega) (by decide +kernel) (by decide +kernel) Ha.out).mono ?_
  rintro e w9 ⟨⟨vu, rfl, ho⟩, hb⟩
  replace Ha := Lib.hid (Ha.out.below hb (Nat.le_refl _))
  replace Hb := Lib.hid (Hb.out.below hb (Nat.le_refl _))
  replace Hx := Lib.hid (Hx.out.below hb (Nat.le_refl _))
  replace Hy := Lib.hid (Hy.out.below hb (Nat.le_refl _))
  replace Hz := Lib.hid (Hz.out.below hb (Nat.le_refl _))
  replace HB := Lib.hid (HB.out.trans (hb.mono HB.out.size))
  have Hu := Lib.hid (Spn.of_owns ho (by simp))
  clear ho
  clear hb
  go_wp2_with fail
  refine (Bridge_lit (r := [(0, 10), (20, 30)]) (by omega) (by omega) (by decide +kernel) (by decide +kernel) Ha.out).mono ?_
  rintro e w10 ⟨⟨vv, rfl, ho⟩, hb⟩
  replace Ha := Lib.hid (Ha.out.below hb (Nat.le_refl _))
  replace Hb := Lib.hid (Hb.out.below hb (Nat.le_refl _))
  replace Hx := Lib.hid (Hx.out.below hb (Nat.le_refl _))
  replace Hy := Lib.hid (Hy.out.below hb (Nat.le_refl _))
  replace Hz := Lib.hid (Hz.out.below hb (Nat.le_refl _))
  replace Hu := Lib.hid (Hu.out.below hb (Nat.le_refl _))
  replace HB := Lib.hid (HB.out.trans (hb.mono HB.out.size))
  have Hv := Lib.hid (Spn.of_owns ho (by simp))
  clear ho
  clear hb
  go_wp2_with fail
  refine (to_any 5 8 _).mono ?_
  rintro e w11 ⟨rfl, hb⟩
  replace Ha := Lib.hid (Ha.out.below hb (Nat.le_refl _))
  replace Hb := Lib.hid (Hb.out.below hb (Nat.le_refl _))
  replace Hx := Lib.hid (Hx.out.below hb (Nat.le_refl _))
  replace Hy := Lib.hid (Hy.out.below hb (Nat.le_refl _))
  replace Hz := Lib.hid (Hz.out.below hb (Nat.le_refl _))
  replace Hu := Lib.hid (Hu.out.below hb (Nat.le_refl _))
  replace Hv := Lib.hid (Hv.out.below hb (Nat.le_refl _))
  replace HB := Lib.hid (HB.out.trans (hb.mono HB.out.size))
  clear hb
  go_wp2_with fail
  refine (to_any 3 5 _).mono ?_
  rintro e w12 ⟨rfl, hb⟩
  replace Ha := Lib.hid (Ha.out.below hb (Nat.le_refl _))
  replace Hb := Lib.hid (Hb.out.below hb (Nat.le_refl _))
  replace Hx := Lib.hid (Hx.out.below hb (Nat.le_refl _))
  replace Hy := Lib.hid (Hy.out.below hb (Nat.le_refl _))
  replace Hz := Lib.hid (Hz.out.below hb (Nat.le_refl _))
  replace Hu := Lib.hid (Hu.out.below hb (Nat.le_refl _))
  replace Hv := Lib.hid (Hv.out.below hb (Nat.le_refl _))
  replace HB := Lib.hid (HB.out.trans (hb.mono HB.out.size))
  clear hb
  go_wp2_with fail
  refine (to_any 9 9 _).mono ?_
  rintro e w13 ⟨rfl, hb⟩
  replace Ha := Lib.hid (Ha.out.below hb (Nat.le_refl _))
  replace Hb := Lib.hid (Hb.out.below hb (Nat.le_refl _))
  replace Hx := Lib.hid (Hx.out.below hb (Nat.le_refl _))
  replace Hy := Lib.hid (Hy.out.below hb (Nat.le_refl _))
  replace Hz := Lib.hid (Hz.out.below hb (Nat.le_refl _))
  replace Hu := Lib.hid (Hu.out.below hb (Nat.le_refl _))
  replace Hv := Lib.hid (Hv.out.below hb (Nat.le_refl _))
  replace HB := Lib.hid (HB.out.trans (hb.mono HB.out.size))
  clear hb
  go_wp2_with fail
  have Hm := Lib.hid (Spn.of_owns (own_lit w13 w13.heap.size (Nat.le_refl _) [(5, 8), (3, 5), (9, 9)] (by simp)) (by simp))
  have hba := (Below.refl w13.heap.size w13).alloc (Nat.le_refl _) (.cells #[.int .i64 5, .int .i64 8, .int .i64 3, .int .i64 5, .int .i64 9, .int .i64 9] 31)
  change Hid (Spn (w13.alloc (.cells #[.int .i64 5, .int .i64 8, .int .i64 3, .int .i64 5, .int .i64 9, .int .i64 9] 31)) (.slice (some ⟨w13.heap.size, 0, none⟩) 3 3) [(5, 8), (3, 5), (9, 9)]) at Hm
  obtain ⟨w14, hw⟩ : ∃ W, w13.alloc (.cells #[.int .i64 5, .int .i64 8, .int .i64 3, .int .i64 5, .int .i64 9, .int .i64 9] 31) = W := ⟨_, rfl⟩
  rw [hw] at hba Hm ⊢
  clear hw
  replace Ha := Lib.hid (Ha.out.below hba (Nat.le_refl _))
  replace Hb := Lib.hid (Hb.out.below hba (Nat.le_refl _))
  replace Hx := Lib.hid (Hx.out.below hba (Nat.le_refl _))
  replace Hy := Lib.hid (Hy.out.below hba (Nat.le_refl _))
  replace Hz := Lib.hid (Hz.out.below hba (Nat.le_refl _))
  replace Hu := Lib.hid (Hu.out.below hba (Nat.le_refl _))
  replace Hv := Lib.hid (Hv.out.below hba (Nat.le_refl _))
  replace HB := Lib.hid (HB.out.trans (hba.mono HB.out.size))
  clear hba
  refine (set_any _ _ _ _).mono ?_
  rintro e w' ⟨rfl, rfl⟩
  go_wp2_with fail
  refine (Make_lit (r := [(3, 8)]) (by decide +kernel) (by decide +kernel) Hm.out).mono ?_
  rintro e w15 ⟨⟨vw, rfl, ho⟩, hb⟩
  replace Ha := Lib.hid (Ha.out.below hb (Nat.le_refl _))
  replace Hb := Lib.hid (Hb.out.below hb (Nat.le_refl _))
  replace Hx := Lib.hid (Hx.out.below hb (Nat.le_refl _))
  replace Hy := Lib.hid (Hy.out.below hb (Nat.le_refl _))
  replace Hz := Lib.hid (Hz.out.below hb (Nat.le_refl _))
  replace Hu := Lib.hid (Hu.out.below hb (Nat.le_refl _))
  replace Hv := Lib.hid (Hv.out.below hb (Nat.le_refl _))
  replace Hm := Lib.hid (Hm.out.below hb (Nat.le_refl _))
  replace HB := Lib.hid (HB.out.trans (hb.mono HB.out.size))
  have Hw := Lib.hid (Spn.of_owns ho (by simp))
  clear ho
  clear hb
  go_wp2_with fail
  refine (Nth_some (d := 20) (by omega) (by omega) (by decide +kernel) (by decide +kernel) Ha.out).mono ?_
  rintro e w16 ⟨rfl, hb⟩
  replace Ha := Lib.hid (Ha.out.below hb (Nat.le_refl _))
  replace Hb := Lib.hid (Hb.out.below hb (Nat.le_refl _))
  replace Hx := Lib.hid (Hx.out.below hb (Nat.le_refl _))
  replace Hy := Lib.hid (Hy.out.below hb (Nat.le_refl _))
  replace Hz := Lib.hid (Hz.out.below hb (Nat.le_refl _))
  replace Hu := Lib.hid (Hu.out.below hb (Nat.le_refl _))
  replace Hv := Lib.hid (Hv.out.below hb (Nat.le_refl _))
  replace Hm := Lib.hid (Hm.out.below hb (Nat.le_refl _))
  replace Hw := Lib.hid (Hw.out.below hb (Nat.le_refl _))
  replace HB := Lib.hid (HB.out.trans (hb.mono HB.out.size))
  clear hb
  go_wp2_with fail
  refine (Nth_none (by omega) (by omega) (by decide +kernel) (by decide +kernel) Ha.out).mono ?_
  rintro e w17 ⟨rfl, hb⟩
  replace Ha := Lib.hid (Ha.out.below hb (Nat.le_refl _))
  replace Hb := Lib.hid (Hb.out.below hb (Nat.le_refl _))
  replace Hx := Lib.hid (Hx.out.below hb (Nat.le_refl _))
  replace Hy := Lib.hid (Hy.out.below hb (Nat.le_refl _))
  replace Hz := Lib.hid (Hz.out.below hb (Nat.le_refl _))
  replace Hu := Lib.hid (Hu.out.below hb (Nat.le_refl _))
  replace Hv := Lib.hid (Hv.out.below hb (Nat.le_refl _))
  replace Hm := Lib.hid (Hm.out.below hb (Nat.le_refl _))
  replace Hw := Lib.hid (Hw.out.below hb (Nat.le_refl _))
  replace HB := Lib.hid (HB.out.trans (hb.mono HB.out.size))
  clear hb
  go_wp2_with fail
  refine (Days_lit (r := 20) (by decide +kernel) (by decide +kernel) Ha.out).mono ?_
  rintro e w18 ⟨rfl, hb⟩
  replace Ha := Lib.hid (Ha.out.below hb (Nat.le_refl _))
  replace Hb := Lib.hid (Hb.out.below hb (Nat.le_refl _))
  replace Hx := Lib.hid (Hx.out.below hb (Nat.le_refl _))
  replace Hy := Lib.hid (Hy.out.below hb (Nat.le_refl _))
  replace Hz := Lib.hid (Hz.out.below hb (Nat.le_refl _))
  replace Hu := Lib.hid (Hu.out.below hb (Nat.le_refl _))
  replace Hv := Lib.hid (Hv.out.below hb (Nat.le_refl _))
  replace Hm := Lib.hid (Hm.out.below hb (Nat.le_refl _))
  replace Hw := Lib.hid (Hw.out.below hb (Nat.le_refl _))
  replace HB := Lib.hid (HB.out.trans (hb.mono HB.out.size))
  clear hb
  go_wp2_with fail
  refine (Before_lit (r := 15) (by omega) (by decide +kernel) (by decide +kernel) Ha.out).mono ?_
  rintro e w19 ⟨rfl, hb⟩
  replace Ha := Lib.hid (Ha.out.below hb (Nat.le_refl _))
  replace Hb := Lib.hid (Hb.out.below hb (Nat.le_refl _))
  replace Hx := Lib.hid (Hx.out.below hb (Nat.le_refl _))
  replace Hy := Lib.hid (Hy.out.below hb (Nat.le_refl _))
  replace Hz := Lib.hid (Hz.out.below hb (Nat.le_refl _))
  replace Hu := Lib.hid (Hu.out.below hb (Nat.le_refl _))
  replace Hv := Lib.hid (Hv.out.below hb (Nat.le_refl _))
  replace Hm := Lib.hid (Hm.out.below hb (Nat.le_refl _))
  replace Hw := Lib.hid (Hw.out.below hb (Nat.le_refl _))
  replace HB := Lib.hid (HB.out.trans (hb.mono HB.out.size))
  clear hb
  go_wp2_with fail
  refine (to_any 0 10 _).mono ?_
  rintro e w20 ⟨rfl, hb⟩
  replace Ha := Lib.hid (Ha.out.below hb (Nat.le_refl _))
  replace Hb := Lib.hid (Hb.out.below hb (Nat.le_refl _))
  replace Hx := Lib.hid (Hx.out.below hb (Nat.le_refl _))
  replace Hy := Lib.hid (Hy.out.below hb (Nat.le_refl _))
  replace Hz := Lib.hid (Hz.out.below hb (Nat.le_refl _))
  replace Hu := Lib.hid (Hu.out.below hb (Nat.le_refl _))
  replace Hv := Lib.hid (Hv.out.below hb (Nat.le_refl _))
  replace Hm := Lib.hid (Hm.out.below hb (Nat.le_refl _))
  replace Hw := Lib.hid (Hw.out.below hb (Nat.le_refl _))
  replace HB := Lib.hid (HB.out.trans (hb.mono HB.out.size))
  clear hb
  go_wp2_with fail
  refine (to_any 10 20 _).mono ?_
  rintro e w21 ⟨rfl, hb⟩
  replace Ha := Lib.hid (Ha.out.below hb (Nat.le_refl _))
  replace Hb := Lib.hid (Hb.out.below hb (Nat.le_refl _))
  replace Hx := Lib.hid (Hx.out.below hb (Nat.le_refl _))
  replace Hy := Lib.hid (Hy.out.below hb (Nat.le_refl _))
  replace Hz := Lib.hid (Hz.out.below hb (Nat.le_refl _))
  replace Hu := Lib.hid (Hu.out.below hb (Nat.le_refl _))
  replace Hv := Lib.hid (Hv.out.below hb (Nat.le_refl _))
  replace Hm := Lib.hid (Hm.out.below hb (Nat.le_refl _))
  replace Hw := Lib.hid (Hw.out.below hb (Nat.le_refl _))
  replace HB := Lib.hid (HB.out.trans (hb.mono HB.out.size))
  clear hb
  go_wp2_with fail
  have Hn := Lib.hid (Spn.of_owns (own_lit w21 w21.heap.size (Nat.le_refl _) [(0, 10), (10, 20)] (by simp)) (by simp))
  have hba := (Below.refl w21.heap.size w21).alloc (Nat.le_refl _) (.cells #[.int .i64 0, .int .i64 10, .int .i64 10, .int .i64 20] 31)
  change Hid (Spn (w21.alloc (.cells #[.int .i64 0, .int .i64 10, .int .i64 10, .int .i64 20] 31)) (.slice (some ⟨w21.heap.size, 0, none⟩) 2 2) [(0, 10), (10, 20)]) at Hn
  obtain ⟨w22, hw⟩ : ∃ W, w21.alloc (.cells #[.int .i64 0, .int .i64 10, .int .i64 10, .int .i64 20] 31) = W := ⟨_, rfl⟩
  rw [hw] at hba Hn ⊢
  clear hw
  replace Ha := Lib.hid (Ha.out.below hba (Nat.le_refl _))
  replace Hb := Lib.hid (Hb.out.below hba (Nat.le_refl _))
  replace Hx := Lib.hid (Hx.out.below hba (Nat.le_refl _))
  replace Hy := Lib.hid (Hy.out.below hba (Nat.le_refl _))
  replace Hz := Lib.hid (Hz.out.below hba (Nat.le_refl _))
  replace Hu := Lib.hid (Hu.out.below hba (Nat.le_refl _))
  replace Hv := Lib.hid (Hv.out.below hba (Nat.le_refl _))
  replace Hm := Lib.hid (Hm.out.below hba (Nat.le_refl _))
  replace Hw := Lib.hid (Hw.out.below hba (Nat.le_refl _))
  replace HB := Lib.hid (HB.out.trans (hba.mono HB.out.size))
  clear hba
  refine (set_any _ _ _ _).mono ?_
  rintro e w' ⟨rfl, rfl⟩
  go_wp2_with fail
  refine (Valid_lit (r := false) (by decide +kernel) Hn.out).mono ?_
  rintro e w23 ⟨rfl, hb⟩
  replace Ha := Lib.hid (Ha.out.below hb (Nat.le_refl _))
  replace Hb := Lib.hid (Hb.out.below hb (Nat.le_refl _))
  replace Hx := Lib.hid (Hx.out.below hb (Nat.le_refl _))
  replace Hy := Lib.hid (Hy.out.below hb (Nat.le_refl _))
  replace Hz := Lib.hid (Hz.out.below hb (Nat.le_refl _))
  replace Hu := Lib.hid (Hu.out.below hb (Nat.le_refl _))
  replace Hv := Lib.hid (Hv.out.below hb (Nat.le_refl _))
  replace Hm := Lib.hid (Hm.out.below hb (Nat.le_refl _))
  replace Hw := Lib.hid (Hw.out.below hb (Nat.le_refl _))
  replace Hn := Lib.hid (Hn.out.below hb (Nat.le_refl _))
  replace HB := Lib.hid (HB.out.trans (hb.mono HB.out.size))
  clear hb
  go_wp2_with fail
  refine (to_any 0 30 _).mono ?_
  rintro e w24 ⟨rfl, hb⟩
  replace Ha := Lib.hid (Ha.out.below hb (Nat.le_refl _))
  replace Hb := Lib.hid (Hb.out.below hb (Nat.le_refl _))
  replace Hx := Lib.hid (Hx.out.below hb (Nat.le_refl _))
  replace Hy := Lib.hid (Hy.out.below hb (Nat.le_refl _))
  replace Hz := Lib.hid (Hz.out.below hb (Nat.le_refl _))
  replace Hu := Lib.hid (Hu.out.below hb (Nat.le_refl _))
  replace Hv := Lib.hid (Hv.out.below hb (Nat.le_refl _))
  replace Hm := Lib.hid (Hm.out.below hb (Nat.le_refl _))
  replace Hw := Lib.hid (Hw.out.below hb (Nat.le_refl _))
  replace Hn := Lib.hid (Hn.out.below hb (Nat.le_refl _))
  replace HB := Lib.hid (HB.out.trans (hb.mono HB.out.size))
  clear hb
  go_wp2_with fail
  have Hp := Lib.hid (Spn.of_owns (own_lit w24 w24.heap.size (Nat.le_refl _) [(0, 30)] (by simp)) (by simp))
  have hba := (Below.refl w24.heap.size w24).alloc (Nat.le_refl _) (.cells #[.int .i64 0, .int .i64 30] 31)
  change Hid (Spn (w24.alloc (.cells #[.int .i64 0, .int .i64 30] 31)) (.slice (some ⟨w24.heap.size, 0, none⟩) 1 1) [(0, 30)]) at Hp
  obtain ⟨w25, hw⟩ : ∃ W, w24.alloc (.cells #[.int .i64 0, .int .i64 30] 31) = W := ⟨_, rfl⟩
  rw [hw] at hba Hp ⊢
  clear hw
  replace Ha := Lib.hid (Ha.out.below hba (Nat.le_refl _))
  replace Hb := Lib.hid (Hb.out.below hba (Nat.le_refl _))
  replace Hx := Lib.hid (Hx.out.below hba (Nat.le_refl _))
  replace Hy := Lib.hid (Hy.out.below hba (Nat.le_refl _))
  replace Hz := Lib.hid (Hz.out.below hba (Nat.le_refl _))
  replace Hu := Lib.hid (Hu.out.below hba (Nat.le_refl _))
  replace Hv := Lib.hid (Hv.out.below hba (Nat.le_refl _))
  replace Hm := Lib.hid (Hm.out.below hba (Nat.le_refl _))
  replace Hw := Lib.hid (Hw.out.below hba (Nat.le_refl _))
  replace Hn := Lib.hid (Hn.out.below hba (Nat.le_refl _))
  replace HB := Lib.hid (HB.out.trans (hba.mono HB.out.size))
  clear hba
  refine (set_any _ _ _ _).mono ?_
  rintro e w' ⟨rfl, rfl⟩
  go_wp2_with fail
  refine (Same_eq rfl Hx.out Hp.out).mono ?_
  rintro e w26 ⟨rfl, hb⟩
  replace Ha := Lib.hid (Ha.out.below hb (Nat.le_refl _))
  replace Hb := Lib.hid (Hb.out.below hb (Nat.le_refl _))
  replace Hx := Lib.hid (Hx.out.below hb (Nat.le_refl _))
  replace Hy := Lib.hid (Hy.out.below hb (Nat.le_refl _))
  replace Hz := Lib.hid (Hz.out.below hb (Nat.le_refl _))
  replace Hu := Lib.hid (Hu.out.below hb (Nat.le_refl _))
  replace Hv := Lib.hid (Hv.out.below hb (Nat.le_refl _))
  replace Hm := Lib.hid (Hm.out.below hb (Nat.le_refl _))
  replace Hw := Lib.hid (Hw.out.below hb (Nat.le_refl _))
  replace Hn := Lib.hid (Hn.out.below hb (Nat.le_refl _))
  replace Hp := Lib.hid (Hp.out.below hb (Nat.le_refl _))
  replace HB := Lib.hid (HB.out.trans (hb.mono HB.out.size))
  clear hb
  go_wp2_with fail
  refine (to_any 5 10 _).mono ?_
  rintro e w27 ⟨rfl, hb⟩
  replace Ha := Lib.hid (Ha.out.below hb (Nat.le_refl _))
  replace Hb := Lib.hid (Hb.out.below hb (Nat.le_refl _))
  replace Hx := Lib.hid (Hx.out.below hb (Nat.le_refl _))
  replace Hy := Lib.hid (Hy.out.below hb (Nat.le_refl _))
  replace Hz := Lib.hid (Hz.out.below hb (Nat.le_refl _))
  replace Hu := Lib.hid (Hu.out.below hb (Nat.le_refl _))
  replace Hv := Lib.hid (Hv.out.below hb (Nat.le_refl _))
  replace Hm := Lib.hid (Hm.out.below hb (Nat.le_refl _))
  replace Hw := Lib.hid (Hw.out.below hb (Nat.le_refl _))
  replace Hn := Lib.hid (Hn.out.below hb (Nat.le_refl _))
  replace Hp := Lib.hid (Hp.out.below hb (Nat.le_refl _))
  replace HB := Lib.hid (HB.out.trans (hb.mono HB.out.size))
  clear hb
  go_wp2_with fail
  refine (to_any 20 25 _).mono ?_
  rintro e w28 ⟨rfl, hb⟩
  replace Ha := Lib.hid (Ha.out.below hb (Nat.le_refl _))
  replace Hb := Lib.hid (Hb.out.below hb (Nat.le_refl _))
  replace Hx := Lib.hid (Hx.out.below hb (Nat.le_refl _))
  replace Hy := Lib.hid (Hy.out.below hb (Nat.le_refl _))
  replace Hz := Lib.hid (Hz.out.below hb (Nat.le_refl _))
  replace Hu := Lib.hid (Hu.out.below hb (Nat.le_refl _))
  replace Hv := Lib.hid (Hv.out.below hb (Nat.le_refl _))
  replace Hm := Lib.hid (Hm.out.below hb (Nat.le_refl _))
  replace Hw := Lib.hid (Hw.out.below hb (Nat.le_refl _))
  replace Hn := Lib.hid (Hn.out.below hb (Nat.le_refl _))
  replace Hp := Lib.hid (Hp.out.below hb (Nat.le_refl _))
  replace HB := Lib.hid (HB.out.trans (hb.mono HB.out.size))
  clear hb
  go_wp2_with fail
  have Hq := Lib.hid (Spn.of_owns (own_lit w28 w28.heap.size (Nat.le_refl _) [(5, 10), (20, 25)] (by simp)) (by simp))
  have hba := (Below.refl w28.heap.size w28).alloc (Nat.le_refl _) (.cells #[.int .i64 5, .int .i64 10, .int .i64 20, .int .i64 25] 31)
  change Hid (Spn (w28.alloc (.cells #[.int .i64 5, .int .i64 10, .int .i64 20, .int .i64 25] 31)) (.slice (some ⟨w28.heap.size, 0, none⟩) 2 2) [(5, 10), (20, 25)]) at Hq
  obtain ⟨w29, hw⟩ : ∃ W, w28.alloc (.cells #[.int .i64 5, .int .i64 10, .int .i64 20, .int .i64 25] 31) = W := ⟨_, rfl⟩
  rw [hw] at hba Hq ⊢
  clear hw
  replace Ha := Lib.hid (Ha.out.below hba (Nat.le_refl _))
  replace Hb := Lib.hid (Hb.out.below hba (Nat.le_refl _))
  replace Hx := Lib.hid (Hx.out.below hba (Nat.le_refl _))
  replace Hy := Lib.hid (Hy.out.below hba (Nat.le_refl _))
  replace Hz := Lib.hid (Hz.out.below hba (Nat.le_refl _))
  replace Hu := Lib.hid (Hu.out.below hba (Nat.le_refl _))
  replace Hv := Lib.hid (Hv.out.below hba (Nat.le_refl _))
  replace Hm := Lib.hid (Hm.out.below hba (Nat.le_refl _))
  replace Hw := Lib.hid (Hw.out.below hba (Nat.le_refl _))
  replace Hn := Lib.hid (Hn.out.below hba (Nat.le_refl _))
  replace Hp := Lib.hid (Hp.out.below hba (Nat.le_refl _))
  replace HB := Lib.hid (HB.out.trans (hba.mono HB.out.size))
  clear hba
  refine (set_any _ _ _ _).mono ?_
  rintro e w' ⟨rfl, rfl⟩
  go_wp2_with fail
  refine (Same_eq rfl Hy.out Hq.out).mono ?_
  rintro e w30 ⟨rfl, hb⟩
  replace Ha := Lib.hid (Ha.out.below hb (Nat.le_refl _))
  replace Hb := Lib.hid (Hb.out.below hb (Nat.le_refl _))
  replace Hx := Lib.hid (Hx.out.below hb (Nat.le_refl _))
  replace Hy := Lib.hid (Hy.out.below hb (Nat.le_refl _))
  replace Hz := Lib.hid (Hz.out.below hb (Nat.le_refl _))
  replace Hu := Lib.hid (Hu.out.below hb (Nat.le_refl _))
  replace Hv := Lib.hid (Hv.out.below hb (Nat.le_refl _))
  replace Hm := Lib.hid (Hm.out.below hb (Nat.le_refl _))
  replace Hw := Lib.hid (Hw.out.below hb (Nat.le_refl _))
  replace Hn := Lib.hid (Hn.out.below hb (Nat.le_refl _))
  replace Hp := Lib.hid (Hp.out.below hb (Nat.le_refl _))
  replace Hq := Lib.hid (Hq.out.below hb (Nat.le_refl _))
  replace HB := Lib.hid (HB.out.trans (hb.mono HB.out.size))
  clear hb
  go_wp2_with fail
  refine (to_any 0 5 _).mono ?_
  rintro e w31 ⟨rfl, hb⟩
  replace Ha := Lib.hid (Ha.out.below hb (Nat.le_refl _))
  replace Hb := Lib.hid (Hb.out.below hb (Nat.le_refl _))
  replace Hx := Lib.hid (Hx.out.below hb (Nat.le_refl _))
  replace Hy := Lib.hid (Hy.out.below hb (Nat.le_refl _))
  replace Hz := Lib.hid (Hz.out.below hb (Nat.le_refl _))
  replace Hu := Lib.hid (Hu.out.below hb (Nat.le_refl _))
  replace Hv := Lib.hid (Hv.out.below hb (Nat.le_refl _))
  replace Hm := Lib.hid (Hm.out.below hb (Nat.le_refl _))
  replace Hw := Lib.hid (Hw.out.below hb (Nat.le_refl _))
  replace Hn := Lib.hid (Hn.out.below hb (Nat.le_refl _))
  replace Hp := Lib.hid (Hp.out.below hb (Nat.le_refl _))
  replace Hq := Lib.hid (Hq.out.below hb (Nat.le_refl _))
  replace HB := Lib.hid (HB.out.trans (hb.mono HB.out.size))
  clear hb
  go_wp2_with fail
  refine (to_any 25 30 _).mono ?_
  rintro e w32 ⟨rfl, hb⟩
  replace Ha := Lib.hid (Ha.out.below hb (Nat.le_refl _))
  replace Hb := Lib.hid (Hb.out.below hb (Nat.le_refl _))
  replace Hx := Lib.hid (Hx.out.below hb (Nat.le_refl _))
  replace Hy := Lib.hid (Hy.out.below hb (Nat.le_refl _))
  replace Hz := Lib.hid (Hz.out.below hb (Nat.le_refl _))
  replace Hu := Lib.hid (Hu.out.below hb (Nat.le_refl _))
  replace Hv := Lib.hid (Hv.out.below hb (Nat.le_refl _))
  replace Hm := Lib.hid (Hm.out.below hb (Nat.le_refl _))
  replace Hw := Lib.hid (Hw.out.below hb (Nat.le_refl _))
  replace Hn := Lib.hid (Hn.out.below hb (Nat.le_refl _))
  replace Hp := Lib.hid (Hp.out.below hb (Nat.le_refl _))
  replace Hq := Lib.hid (Hq.out.below hb (Nat.le_refl _))
  replace HB := Lib.hid (HB.out.trans (hb.mono HB.out.size))
  clear hb
  go_wp2_with fail
  have Hr := Lib.hid (Spn.of_owns (own_lit w32 w32.heap.size (Nat.le_refl _) [(0, 5), (25, 30)] (by simp)) (by simp))
  have hba := (Below.refl w32.heap.size w32).alloc (Nat.le_refl _) (.cells #[.int .i64 0, .int .i64 5, .int .i64 25, .int .i64 30] 31)
  change Hid (Spn (w32.alloc (.cells #[.int .i64 0, .int .i64 5, .int .i64 25, .int .i64 30] 31)) (.slice (some ⟨w32.heap.size, 0, none⟩) 2 2) [(0, 5), (25, 30)]) at Hr
  obtain ⟨w33, hw⟩ : ∃ W, w32.alloc (.cells #[.int .i64 0, .int .i64 5, .int .i64 25, .int .i64 30] 31) = W := ⟨_, rfl⟩
  rw [hw] at hba Hr ⊢
  clear hw
  replace Ha := Lib.hid (Ha.out.below hba (Nat.le_refl _))
  replace Hb := Lib.hid (Hb.out.below hba (Nat.le_refl _))
  replace Hx := Lib.hid (Hx.out.below hba (Nat.le_refl _))
  replace Hy := Lib.hid (Hy.out.below hba (Nat.le_refl _))
  replace Hz := Lib.hid (Hz.out.below hba (Nat.le_refl _))
  replace Hu := Lib.hid (Hu.out.below hba (Nat.le_refl _))
  replace Hv := Lib.hid (Hv.out.below hba (Nat.le_refl _))
  replace Hm := Lib.hid (Hm.out.below hba (Nat.le_refl _))
  replace Hw := Lib.hid (Hw.out.below hba (Nat.le_refl _))
  replace Hn := Lib.hid (Hn.out.below hba (Nat.le_refl _))
  replace Hp := Lib.hid (Hp.out.below hba (Nat.le_refl _))
  replace Hq := Lib.hid (Hq.out.below hba (Nat.le_refl _))
  replace HB := Lib.hid (HB.out.trans (hba.mono HB.out.size))
  clear hba
  refine (set_any _ _ _ _).mono ?_
  rintro e w' ⟨rfl, rfl⟩
  go_wp2_with fail
  refine (Same_eq rfl Hz.out Hr.out).mono ?_
  rintro e w34 ⟨rfl, hb⟩
  replace Ha := Lib.hid (Ha.out.below hb (Nat.le_refl _))
  replace Hb := Lib.hid (Hb.out.below hb (Nat.le_refl _))
  replace Hx := Lib.hid (Hx.out.below hb (Nat.le_refl _))
  replace Hy := Lib.hid (Hy.out.below hb (Nat.le_refl _))
  replace Hz := Lib.hid (Hz.out.below hb (Nat.le_refl _))
  replace Hu := Lib.hid (Hu.out.below hb (Nat.le_refl _))
  replace Hv := Lib.hid (Hv.out.below hb (Nat.le_refl _))
  replace Hm := Lib.hid (Hm.out.below hb (Nat.le_refl _))
  replace Hw := Lib.hid (Hw.out.below hb (Nat.le_refl _))
  replace Hn := Lib.hid (Hn.out.below hb (Nat.le_refl _))
  replace Hp := Lib.hid (Hp.out.below hb (Nat.le_refl _))
  replace Hq := Lib.hid (Hq.out.below hb (Nat.le_refl _))
  replace Hr := Lib.hid (Hr.out.below hb (Nat.le_refl _))
  replace HB := Lib.hid (HB.out.trans (hb.mono HB.out.size))
  clear hb
  go_wp2_with fail
  refine (to_any 0 30 _).mono ?_
  rintro e w35 ⟨rfl, hb⟩
  replace Ha := Lib.hid (Ha.out.below hb (Nat.le_refl _))
  replace Hb := Lib.hid (Hb.out.below hb (Nat.le_refl _))
  replace Hx := Lib.hid (Hx.out.below hb (Nat.le_refl _))
  replace Hy := Lib.hid (Hy.out.below hb (Nat.le_refl _))
  replace Hz := Lib.hid (Hz.out.below hb (Nat.le_refl _))
  replace Hu := Lib.hid (Hu.out.below hb (Nat.le_refl _))
  replace Hv := Lib.hid (Hv.out.below hb (Nat.le_refl _))
  replace Hm := Lib.hid (Hm.out.below hb (Nat.le_refl _))
  replace Hw := Lib.hid (Hw.out.below hb (Nat.le_refl _))
  replace Hn := Lib.hid (Hn.out.below hb (Nat.le_refl _))
  replace Hp := Lib.hid (Hp.out.below hb (Nat.le_refl _))
  replace Hq := Lib.hid (Hq.out.below hb (Nat.le_refl _))
  replace Hr := Lib.hid (Hr.out.below hb (Nat.le_refl _))
  replace HB := Lib.hid (HB.out.trans (hb.mono HB.out.size))
  clear hb
  go_wp2_with fail
  have Hs := Lib.hid (Spn.of_owns (own_lit w35 w35.heap.size (Nat.le_refl _) [(0, 30)] (by simp)) (by simp))
  have hba := (Below.refl w35.heap.size w35).alloc (Nat.le_refl _) (.cells #[.int .i64 0, .int .i64 30] 31)
  change Hid (Spn (w35.alloc (.cells #[.int .i64 0, .int .i64 30] 31)) (.slice (some ⟨w35.heap.size, 0, none⟩) 1 1) [(0, 30)]) at Hs
  obtain ⟨w36, hw⟩ : ∃ W, w35.alloc (.cells #[.int .i64 0, .int .i64 30] 31) = W := ⟨_, rfl⟩
  rw [hw] at hba Hs ⊢
  clear hw
  replace Ha := Lib.hid (Ha.out.below hba (Nat.le_refl _))
  replace Hb := Lib.hid (Hb.out.below hba (Nat.le_refl _))
  replace Hx := Lib.hid (Hx.out.below hba (Nat.le_refl _))
  replace Hy := Lib.hid (Hy.out.below hba (Nat.le_refl _))
  replace Hz := Lib.hid (Hz.out.below hba (Nat.le_refl _))
  replace Hu := Lib.hid (Hu.out.below hba (Nat.le_refl _))
  replace Hv := Lib.hid (Hv.out.below hba (Nat.le_refl _))
  replace Hm := Lib.hid (Hm.out.below hba (Nat.le_refl _))
  replace Hw := Lib.hid (Hw.out.below hba (Nat.le_refl _))
  replace Hn := Lib.hid (Hn.out.below hba (Nat.le_refl _))
  replace Hp := Lib.hid (Hp.out.below hba (Nat.le_refl _))
  replace Hq := Lib.hid (Hq.out.below hba (Nat.le_refl _))
  replace Hr := Lib.hid (Hr.out.below hba (Nat.le_refl _))
  replace HB := Lib.hid (HB.out.trans (hba.mono HB.out.size))
  clear hba
  refine (set_any _ _ _ _).mono ?_
  rintro e w' ⟨rfl, rfl⟩
  go_wp2_with fail
  refine (Same_eq rfl Hu.out Hs.out).mono ?_
  rintro e w37 ⟨rfl, hb⟩
  replace Ha := Lib.hid (Ha.out.below hb (Nat.le_refl _))
  replace Hb := Lib.hid (Hb.out.below hb (Nat.le_refl _))
  replace Hx := Lib.hid (Hx.out.below hb (Nat.le_refl _))
  replace Hy := Lib.hid (Hy.out.below hb (Nat.le_refl _))
  replace Hz := Lib.hid (Hz.out.below hb (Nat.le_refl _))
  replace Hu := Lib.hid (Hu.out.below hb (Nat.le_refl _))
  replace Hv := Lib.hid (Hv.out.below hb (Nat.le_refl _))
  replace Hm := Lib.hid (Hm.out.below hb (Nat.le_refl _))
  replace Hw := Lib.hid (Hw.out.below hb (Nat.le_refl _))
  replace Hn := Lib.hid (Hn.out.below hb (Nat.le_refl _))
  replace Hp := Lib.hid (Hp.out.below hb (Nat.le_refl _))
  replace Hq := Lib.hid (Hq.out.below hb (Nat.le_refl _))
  replace Hr := Lib.hid (Hr.out.below hb (Nat.le_refl _))
  replace Hs := Lib.hid (Hs.out.below hb (Nat.le_refl _))
  replace HB := Lib.hid (HB.out.trans (hb.mono HB.out.size))
  clear hb
  go_wp2_with fail
  refine (Same_eq rfl Hv.out Ha.out).mono ?_
  rintro e w38 ⟨rfl, hb⟩
  replace Ha := Lib.hid (Ha.out.below hb (Nat.le_refl _))
  replace Hb := Lib.hid (Hb.out.below hb (Nat.le_refl _))
  replace Hx := Lib.hid (Hx.out.below hb (Nat.le_refl _))
  replace Hy := Lib.hid (Hy.out.below hb (Nat.le_refl _))
  replace Hz := Lib.hid (Hz.out.below hb (Nat.le_refl _))
  replace Hu := Lib.hid (Hu.out.below hb (Nat.le_refl _))
  replace Hv := Lib.hid (Hv.out.below hb (Nat.le_refl _))
  replace Hm := Lib.hid (Hm.out.below hb (Nat.le_refl _))
  replace Hw := Lib.hid (Hw.out.below hb (Nat.le_refl _))
  replace Hn := Lib.hid (Hn.out.below hb (Nat.le_refl _))
  replace Hp := Lib.hid (Hp.out.below hb (Nat.le_refl _))
  replace Hq := Lib.hid (Hq.out.below hb (Nat.le_refl _))
  replace Hr := Lib.hid (Hr.out.below hb (Nat.le_refl _))
  replace Hs := Lib.hid (Hs.out.below hb (Nat.le_refl _))
  replace HB := Lib.hid (HB.out.trans (hb.mono HB.out.size))
  clear hb
  go_wp2_with fail
  refine (to_any 3 8 _).mono ?_
  rintro e w39 ⟨rfl, hb⟩
  replace Ha := Lib.hid (Ha.out.below hb (Nat.le_refl _))
  replace Hb := Lib.hid (Hb.out.below hb (Nat.le_refl _))
  replace Hx := Lib.hid (Hx.out.below hb (Nat.le_refl _))
  replace Hy := Lib.hid (Hy.out.below hb (Nat.le_refl _))
  replace Hz := Lib.hid (Hz.out.below hb (Nat.le_refl _))
  replace Hu := Lib.hid (Hu.out.below hb (Nat.le_refl _))
  replace Hv := Lib.hid (Hv.out.below hb (Nat.le_refl _))
  replace Hm := Lib.hid (Hm.out.below hb (Nat.le_refl _))
  replace Hw := Lib.hid (Hw.out.below hb (Nat.le_refl _))
  replace Hn := Lib.hid (Hn.out.below hb (Nat.le_refl _))
  replace Hp := Lib.hid (Hp.out.below hb (Nat.le_refl _))
  replace Hq := Lib.hid (Hq.out.below hb (Nat.le_refl _))
  replace Hr := Lib.hid (Hr.out.below hb (Nat.le_refl _))
  replace Hs := Lib.hid (Hs.out.below hb (Nat.le_refl _))
  replace HB := Lib.hid (HB.out.trans (hb.mono HB.out.size))
  clear hb
  go_wp2_with fail
  have Ht := Lib.hid (Spn.of_owns (own_lit w39 w39.heap.size (Nat.le_refl _) [(3, 8)] (by simp)) (by simp))
  have hba := (Below.refl w39.heap.size w39).alloc (Nat.le_refl _) (.cells #[.int .i64 3, .int .i64 8] 31)
  change Hid (Spn (w39.alloc (.cells #[.int .i64 3, .int .i64 8] 31)) (.slice (some ⟨w39.heap.size, 0, none⟩) 1 1) [(3, 8)]) at Ht
  obtain ⟨w40, hw⟩ : ∃ W, w39.alloc (.cells #[.int .i64 3, .int .i64 8] 31) = W := ⟨_, rfl⟩
  rw [hw] at hba Ht ⊢
  clear hw
  replace Ha := Lib.hid (Ha.out.below hba (Nat.le_refl _))
  replace Hb := Lib.hid (Hb.out.below hba (Nat.le_refl _))
  replace Hx := Lib.hid (Hx.out.below hba (Nat.le_refl _))
  replace Hy := Lib.hid (Hy.out.below hba (Nat.le_refl _))
  replace Hz := Lib.hid (Hz.out.below hba (Nat.le_refl _))
  replace Hu := Lib.hid (Hu.out.below hba (Nat.le_refl _))
  replace Hv := Lib.hid (Hv.out.below hba (Nat.le_refl _))
  replace Hm := Lib.hid (Hm.out.below hba (Nat.le_refl _))
  replace Hw := Lib.hid (Hw.out.below hba (Nat.le_refl _))
  replace Hn := Lib.hid (Hn.out.below hba (Nat.le_refl _))
  replace Hp := Lib.hid (Hp.out.below hba (Nat.le_refl _))
  replace Hq := Lib.hid (Hq.out.below hba (Nat.le_refl _))
  replace Hr := Lib.hid (Hr.out.below hba (Nat.le_refl _))
  replace Hs := Lib.hid (Hs.out.below hba (Nat.le_refl _))
  replace HB := Lib.hid (HB.out.trans (hba.mono HB.out.size))
  clear hba
  refine (set_any _ _ _ _).mono ?_
  rintro e w' ⟨rfl, rfl⟩
  go_wp2_with fail
  refine (Same_eq rfl Hw.out Ht.out).mono ?_
  rintro e w41 ⟨rfl, hb⟩
  replace Ha := Lib.hid (Ha.out.below hb (Nat.le_refl _))
  replace Hb := Lib.hid (Hb.out.below hb (Nat.le_refl _))
  replace Hx := Lib.hid (Hx.out.below hb (Nat.le_refl _))
  replace Hy := Lib.hid (Hy.out.below hb (Nat.le_refl _))
  replace Hz := Lib.hid (Hz.out.below hb (Nat.le_refl _))
  replace Hu := Lib.hid (Hu.out.below hb (Nat.le_refl _))
  replace Hv := Lib.hid (Hv.out.below hb (Nat.le_refl _))
  replace Hm := Lib.hid (Hm.out.below hb (Nat.le_refl _))
  replace Hw := Lib.hid (Hw.out.below hb (Nat.le_refl _))
  replace Hn := Lib.hid (Hn.out.below hb (Nat.le_refl _))
  replace Hp := Lib.hid (Hp.out.below hb (Nat.le_refl _))
  replace Hq := Lib.hid (Hq.out.below hb (Nat.le_refl _))
  replace Hr := Lib.hid (Hr.out.below hb (Nat.le_refl _))
  replace Hs := Lib.hid (Hs.out.below hb (Nat.le_refl _))
  replace Ht := Lib.hid (Ht.out.below hb (Nat.le_refl _))
  replace HB := Lib.hid (HB.out.trans (hb.mono HB.out.size))
  clear hb
  go_wp2
  go_ret
  exact ⟨rfl, HB.out⟩

end Go.Proofs.YtanlaejdibikiaaGreat
