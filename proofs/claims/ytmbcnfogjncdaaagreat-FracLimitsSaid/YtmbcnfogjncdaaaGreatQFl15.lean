/- A part of the proofs about fractions. -/
import Derived.Test.YtmbcnfogjncdaaaGreatQFl14
set_option maxRecDepth 100000
set_option maxHeartbeats 1000000
namespace Go.Proofs.YtmbcnfogjncdaaaGreat
open Go.RowKit Wh
def Bk (W : World) (B : Nat) (C : Array Value) (T : TypeId) : Prop := W.heap[B]? = some (.cells C T (0, 0))
theorem Bk.lt {W B C T} (h : Bk W B C T) : B < W.heap.size := (Array.getElem?_eq_some_iff.1 h).1
theorem Bk.cell {W B C T} (h : Bk W B C T) (i : Nat) : W.cell? ⟨B, i, none⟩ = C[i]? := by unfold Bk at h; simp [World.cell?, h]
theorem Bk.free {W B C T} (h : Bk W B C T) (i : Nat) : W.frozen? ⟨B, i, none⟩ = false := by unfold Bk at h; simp [World.frozen?, h]
theorem Bk.on {W W' : World} {B C T} (h : Bk W B C T) (hb : Below W.heap.size W W') : Bk W' B C T := (hb.block B h.lt).trans h
theorem Bk.new (W : World) (C : Array Value) (T : TypeId) : Bk (W.alloc (.cells C T)) W.heap.size C T := World.alloc_heap_new W _
theorem Bk.alloc {W : World} {B C T} (h : Bk W B C T) (o : Obj) : Bk (W.alloc o) B C T := h.on ((Below.refl W.heap.size W).alloc (Nat.le_refl _) o)
theorem Bk.put {W : World} {B C T} (h : Bk W B C T) (i : Nat) (v : Value) : Bk (W.setCell ⟨B, i, none⟩ v) B (C.setIfInBounds i v) T := heap_setCell_same W B i _ _ v h
theorem Bk.put_other {W : World} {B C T} (h : Bk W B C T) (B' i : Nat) (v : Value) (hne : B ≠ B') : Bk (W.setCell ⟨B', i, none⟩ v) B C T := (heap_setCell_other W ⟨B', i, none⟩ B v hne).trans h
theorem mk {w W : World} (hB : Below w.heap.size w W) (C : Array Value) (T : TypeId) : Below W.heap.size W (W.alloc (.cells C T)) ∧ Bk (W.alloc (.cells C T)) W.heap.size C T ∧ Below w.heap.size w (W.alloc (.cells C T)) :=
 ⟨(Below.refl _ W).alloc (Nat.le_refl _) _, Bk.new W C T, hB.alloc hB.size _⟩
theorem Bk.put4 {W : World} {B : Nat} {x0 x1 x2 x3 : Value} {T : TypeId} (h : Bk W B #[x0, x1, x2, x3] T) (v0 v1 v2 v3 : Value) : Bk ((((W.setCell ⟨B, 0, none⟩ v0).setCell ⟨B, 1, none⟩ v1).setCell ⟨B, 2, none⟩ v2).setCell ⟨B, 3, none⟩ v3) B #[v0, v1, v2, v3] T := (((h.put 0 v0).put 1 v1).put 2 v2).put 3 v3
theorem Bk.put_other4 {W : World} {B : Nat} {C : Array Value} {T : TypeId} (h : Bk W B C T) (X : Nat) (v0 v1 v2 v3 : Value) (hne : B ≠ X) : Bk ((((W.setCell ⟨X, 0, none⟩ v0).setCell ⟨X, 1, none⟩ v1).setCell ⟨X, 2, none⟩ v2).setCell ⟨X, 3, none⟩ v3) B C T :=
 (((h.put_other X 0 v0 hne).put_other X 1 v1 hne).put_other X 2 v2 hne).put_other X 3 v3 hne
theorem below4 {K : Nat} {w W : World} (h : Below K w W) (X : Nat) (hX : K ≤ X) (v0 v1 v2 v3 : Value) : Below K w ((((W.setCell ⟨X, 0, none⟩ v0).setCell ⟨X, 1, none⟩ v1).setCell ⟨X, 2, none⟩ v2).setCell ⟨X, 3, none⟩ v3) :=
 (((h.setCell (p := ⟨X, 0, none⟩) hX v0).setCell (p := ⟨X, 1, none⟩) hX v1).setCell (p := ⟨X, 2, none⟩) hX v2).setCell (p := ⟨X, 3, none⟩) hX v3
theorem Bk.cells2 {W B x0 x1 T} (h : Bk W B #[x0, x1] T) : W.cell? ⟨B, 0, none⟩ = some x0 ∧ W.cell? ⟨B, 1, none⟩ = some x1 := ⟨h.cell 0, h.cell 1⟩
theorem Bk.cells6 {W B x0 x1 x2 x3 x4 x5 T} (h : Bk W B #[x0, x1, x2, x3, x4, x5] T) : W.cell? ⟨B, 0, none⟩ = some x0 ∧ W.cell? ⟨B, 1, none⟩ = some x1 ∧ W.cell? ⟨B, 2, none⟩ = some x2 ∧ W.cell? ⟨B, 3, none⟩ = some x3 ∧ W.cell? ⟨B, 4, none⟩ = some x4 ∧ W.cell? ⟨B, 5, none⟩ = some x5 := ⟨h.cell 0, h.cell 1, h.cell 2, h.cell 3, h.cell 4, h.cell 5⟩
theorem Bk.all2 {W B x0 x1 T} (h : Bk W B #[x0, x1] T) : W.cell? ⟨B, 0, none⟩ = some x0 ∧ W.frozen? ⟨B, 0, none⟩ = false ∧ W.cell? ⟨B, 1, none⟩ = some x1 ∧ W.frozen? ⟨B, 1, none⟩ = false := ⟨h.cell 0, h.free 0, h.cell 1, h.free 1⟩
theorem Bk.all4 {W B x0 x1 x2 x3 T} (h : Bk W B #[x0, x1, x2, x3] T) : W.cell? ⟨B, 0, none⟩ = some x0 ∧ W.frozen? ⟨B, 0, none⟩ = false ∧ W.cell? ⟨B, 1, none⟩ = some x1 ∧ W.frozen? ⟨B, 1, none⟩ = false ∧ W.cell? ⟨B, 2, none⟩ = some x2 ∧ W.frozen? ⟨B, 2, none⟩ = false ∧ W.cell? ⟨B, 3, none⟩ = some x3 ∧ W.frozen? ⟨B, 3, none⟩ = false := ⟨h.cell 0, h.free 0, h.cell 1, h.free 1, h.cell 2, h.free 2, h.cell 3, h.free 3⟩
theorem Bk.all6 {W B x0 x1 x2 x3 x4 x5 T} (h : Bk W B #[x0, x1, x2, x3, x4, x5] T) : W.cell? ⟨B, 0, none⟩ = some x0 ∧ W.frozen? ⟨B, 0, none⟩ = false ∧ W.cell? ⟨B, 1, none⟩ = some x1 ∧ W.frozen? ⟨B, 1, none⟩ = false ∧ W.cell? ⟨B, 2, none⟩ = some x2 ∧ W.frozen? ⟨B, 2, none⟩ = false ∧ W.cell? ⟨B, 3, none⟩ = some x3 ∧ W.frozen? ⟨B, 3, none⟩ = false ∧ W.cell? ⟨B, 4, none⟩ = some x4 ∧ W.frozen? ⟨B, 4, none⟩ = false ∧ W.cell? ⟨B, 5, none⟩ = some x5 ∧ W.frozen? ⟨B, 5, none⟩ = false := ⟨h.cell 0, h.free 0, h.cell 1, h.free 1, h.cell 2, h.free 2, h.cell 3, h.free 3, h.cell 4, h.free 4, h.cell 5, h.free 5⟩
theorem Bk.cells4 {W B x y z u T} (h : Bk W B #[x, y, z, u] T) : W.cell? ⟨B, 0, none⟩ = some x ∧ W.cell? ⟨B, 1, none⟩ = some y ∧ W.cell? ⟨B, 2, none⟩ = some z ∧ W.cell? ⟨B, 3, none⟩ = some u := ⟨h.cell 0, h.cell 1, h.cell 2, h.cell 3⟩
theorem dig_one_iff (g : Nat) : dig g = [1] ↔ g = 1 := by
 constructor
 · intro h; rw [← val_dig g, h]; rfl
 · rintro rfl; rw [dig_pos (by decide)]; simp [dig_zero]
theorem gcd_len {n d : Nat} (hd : (dig d).length ≤ 1024) (h0 : d ≠ 0) : (dig (((Nat.gcd n d : Nat) : Int)).natAbs).length ≤ 1024 := by
 rw [Int.natAbs_natCast]
 exact Nat.le_trans (length_dig_mono (Nat.gcd_le_right n (Nat.pos_of_ne_zero h0))) hd
theorem valid_a (b : Bool) (a : Option Addr) (k c : Nat) (l : List Nat) (b' : Bool) (a' : Option Addr) (k' c' : Nat) (l' : List Nat) (w : World) (h : Lim w (.slice a k c) l) (_h' : Lim w (.slice a' k' c') l') (e_v1 : (vld b l) = false) :
  Calls Tryz.prog 113 #[.agg #[.bool b, .slice a k c, .bool b', .slice a' k' c']] w fun e w' => e = .returned (.bool false) ∧ Below w.heap.size w w' := by
 have H_v1 := fun W (hW : Below w.heap.size w W) => Valid_any b _ l W (h.below hW (Nat.le_refl _))
 rw [e_v1] at H_v1
 have K_v1 := Lib.hid H_v1
 clear H_v1 e_v1 h
 have hB := (Below.refl w.heap.size w).alloc (Nat.le_refl _) (.cells #[.bool b, .slice a k c, .bool b', .slice a' k' c'] 101)
 have xx := Bk.new w #[.bool b, .slice a k c, .bool b', .slice a' k' c'] 101
 obtain ⟨p0, p1, p2, p3⟩ := xx.cells4
 go_enter Tryz.func113, Tryz.ntmps113
 go_wp2_with fail
 refine (K_v1.out _ hB).mono ?_
 rintro e wx ⟨rfl, hb⟩
 replace xx := xx.on hb; clear p0 p1 p2 p3
 obtain ⟨p0, p1, p2, p3⟩ := xx.cells4
 replace hB := hB.trans (hb.mono hB.size); clear hb
 have HB := Lib.hid hB
 clear hB xx
 go_wp2
 go_ret
 exact ⟨rfl, HB.out⟩
theorem valid_b (b : Bool) (a : Option Addr) (k c : Nat) (l : List Nat) (b' : Bool) (a' : Option Addr) (k' c' : Nat) (l' : List Nat) (w : World) (h : Lim w (.slice a k c) l) (h' : Lim w (.slice a' k' c') l') (e_v1 : (vld b l) = true) (e_v2 : (vld b' l') = false) :
  Calls Tryz.prog 113 #[.agg #[.bool b, .slice a k c, .bool b', .slice a' k' c']] w fun e w' => e = .returned (.bool false) ∧ Below w.heap.size w w' := by
 have H_v1 := fun W (hW : Below w.heap.size w W) => Valid_any b _ l W (h.below hW (Nat.le_refl _))
 rw [e_v1] at H_v1
 have K_v1 := Lib.hid H_v1
 have H_v2 := fun W (hW : Below w.heap.size w W) => Valid_any b' _ l' W (h'.below hW (Nat.le_refl _))
 rw [e_v2] at H_v2
 have K_v2 := Lib.hid H_v2
 clear H_v1 e_v1 H_v2 e_v2 h h'
 have hB := (Below.refl w.heap.size w).alloc (Nat.le_refl _) (.cells #[.bool b, .slice a k c, .bool b', .slice a' k' c'] 101)
 have xx := Bk.new w #[.bool b, .slice a k c, .bool b', .slice a' k' c'] 101
 obtain ⟨p0, p1, p2, p3⟩ := xx.cells4
 go_enter Tryz.func113, Tryz.ntmps113
 go_wp2_with fail
 refine (K_v1.out _ hB).mono ?_
 rintro e wx ⟨rfl, hb⟩
 replace xx := xx.on hb; clear p0 p1 p2 p3
 obtain ⟨p0, p1, p2, p3⟩ := xx.cells4
 replace hB := hB.trans (hb.mono hB.size); clear hb
 go_wp2_with fail
 refine (K_v2.out _ hB).mono ?_
 rintro e wx ⟨rfl, hb⟩
 replace xx := xx.on hb; clear p0 p1 p2 p3
 obtain ⟨p0, p1, p2, p3⟩ := xx.cells4
 replace hB := hB.trans (hb.mono hB.size); clear hb
 have HB := Lib.hid hB
 clear hB xx
 go_wp2
 go_ret
 exact ⟨rfl, HB.out⟩
theorem valid_c (b : Bool) (a : Option Addr) (k c : Nat) (l : List Nat) (b' : Bool) (a' : Option Addr) (k' c' : Nat) (l' : List Nat) (w : World) (h : Lim w (.slice a k c) l) (h' : Lim w (.slice a' k' c') l') (e_v1 : (vld b l) = true) (e_v2 : (vld b' l') = true) (e_t1 : (decide (256 < l.length)) = true) :
  Calls Tryz.prog 113 #[.agg #[.bool b, .slice a k c, .bool b', .slice a' k' c']] w fun e w' => e = .returned (.bool false) ∧ Below w.heap.size w w' := by
 have H_v1 := fun W (hW : Below w.heap.size w W) => Valid_any b _ l W (h.below hW (Nat.le_refl _))
 rw [e_v1] at H_v1
 have K_v1 := Lib.hid H_v1
 have H_v2 := fun W (hW : Below w.heap.size w W) => Valid_any b' _ l' W (h'.below hW (Nat.le_refl _))
 rw [e_v2] at H_v2
 have K_v2 := Lib.hid H_v2
 have H_t1 := fun W (hW : Below w.heap.size w W) => tooLong_raw b _ l W (h.below hW (Nat.le_refl _))
 rw [e_t1] at H_t1
 have K_t1 := Lib.hid H_t1
 clear H_v1 e_v1 H_v2 e_v2 H_t1 e_t1 h h'
 have hB := (Below.refl w.heap.size w).alloc (Nat.le_refl _) (.cells #[.bool b, .slice a k c, .bool b', .slice a' k' c'] 101)
 have xx := Bk.new w #[.bool b, .slice a k c, .bool b', .slice a' k' c'] 101
 obtain ⟨p0, p1, p2, p3⟩ := xx.cells4
 go_enter Tryz.func113, Tryz.ntmps113
 go_wp2_with fail
 refine (K_v1.out _ hB).mono ?_
 rintro e wx ⟨rfl, hb⟩
 replace xx := xx.on hb; clear p0 p1 p2 p3
 obtain ⟨p0, p1, p2, p3⟩ := xx.cells4
 replace hB := hB.trans (hb.mono hB.size); clear hb
 go_wp2_with fail
 refine (K_v2.out _ hB).mono ?_
 rintro e wx ⟨rfl, hb⟩
 replace xx := xx.on hb; clear p0 p1 p2 p3
 obtain ⟨p0, p1, p2, p3⟩ := xx.cells4
 replace hB := hB.trans (hb.mono hB.size); clear hb
 go_wp2_with fail
 refine (K_t1.out _ hB).mono ?_
 rintro e wx ⟨rfl, hb⟩
 replace xx := xx.on hb; clear p0 p1 p2 p3
 obtain ⟨p0, p1, p2, p3⟩ := xx.cells4
 replace hB := hB.trans (hb.mono hB.size); clear hb
 have HB := Lib.hid hB
 clear hB xx
 go_wp2
 go_ret
 exact ⟨rfl, HB.out⟩
theorem valid_d (b : Bool) (a : Option Addr) (k c : Nat) (l : List Nat) (b' : Bool) (a' : Option Addr) (k' c' : Nat) (l' : List Nat) (w : World) (h : Lim w (.slice a k c) l) (h' : Lim w (.slice a' k' c') l') (e_v1 : (vld b l) = true) (e_v2 : (vld b' l') = true) (e_t1 : (decide (256 < l.length)) = false) (e_t2 : (decide (256 < l'.length)) = true) :
  Calls Tryz.prog 113 #[.agg #[.bool b, .slice a k c, .bool b', .slice a' k' c']] w fun e w' => e = .returned (.bool false) ∧ Below w.heap.size w w' := by
 have H_v1 := fun W (hW : Below w.heap.size w W) => Valid_any b _ l W (h.below hW (Nat.le_refl _))
 rw [e_v1] at H_v1
 have K_v1 := Lib.hid H_v1
 have H_v2 := fun W (hW : Below w.heap.size w W) => Valid_any b' _ l' W (h'.below hW (Nat.le_refl _))
 rw [e_v2] at H_v2
 have K_v2 := Lib.hid H_v2
 have H_t1 := fun W (hW : Below w.heap.size w W) => tooLong_raw b _ l W (h.below hW (Nat.le_refl _))
 rw [e_t1] at H_t1
 have K_t1 := Lib.hid H_t1
 have H_t2 := fun W (hW : Below w.heap.size w W) => tooLong_raw b' _ l' W (h'.below hW (Nat.le_refl _))
 rw [e_t2] at H_t2
 have K_t2 := Lib.hid H_t2
 clear H_v1 e_v1 H_v2 e_v2 H_t1 e_t1 H_t2 e_t2 h h'
 have hB := (Below.refl w.heap.size w).alloc (Nat.le_refl _) (.cells #[.bool b, .slice a k c, .bool b', .slice a' k' c'] 101)
 have xx := Bk.new w #[.bool b, .slice a k c, .bool b', .slice a' k' c'] 101
 obtain ⟨p0, p1, p2, p3⟩ := xx.cells4
 go_enter Tryz.func113, Tryz.ntmps113
 go_wp2_with fail
 refine (K_v1.out _ hB).mono ?_
 rintro e wx ⟨rfl, hb⟩
 replace xx := xx.on hb; clear p0 p1 p2 p3
 obtain ⟨p0, p1, p2, p3⟩ := xx.cells4
 replace hB := hB.trans (hb.mono hB.size); clear hb
 go_wp2_with fail
 refine (K_v2.out _ hB).mono ?_
 rintro e wx ⟨rfl, hb⟩
 replace xx := xx.on hb; clear p0 p1 p2 p3
 obtain ⟨p0, p1, p2, p3⟩ := xx.cells4
 replace hB := hB.trans (hb.mono hB.size); clear hb
 go_wp2_with fail
 refine (K_t1.out _ hB).mono ?_
 rintro e wx ⟨rfl, hb⟩
 replace xx := xx.on hb; clear p0 p1 p2 p3
 obtain ⟨p0, p1, p2, p3⟩ := xx.cells4
 replace hB := hB.trans (hb.mono hB.size); clear hb
 go_wp2_with fail
 refine (K_t2.out _ hB).mono ?_
 rintro e wx ⟨rfl, hb⟩
 replace xx := xx.on hb; clear p0 p1 p2 p3
 obtain ⟨p0, p1, p2, p3⟩ := xx.cells4
 replace hB := hB.trans (hb.mono hB.size); clear hb
 have HB := Lib.hid hB
 clear hB xx
 go_wp2
 go_ret
 exact ⟨rfl, HB.out⟩
theorem valid_e (b : Bool) (a : Option Addr) (k c : Nat) (l : List Nat) (b' : Bool) (a' : Option Addr) (k' c' : Nat) (l' : List Nat) (w : World) (h : Lim w (.slice a k c) l) (h' : Lim w (.slice a' k' c') l') (e_v1 : (vld b l) = true) (e_v2 : (vld b' l') = true) (e_t1 : (decide (256 < l.length)) = false) (e_t2 : (decide (256 < l'.length)) = false) (e_z2 : (decide (l' = [])) = true) :
  Calls Tryz.prog 113 #[.agg #[.bool b, .slice a k c, .bool b', .slice a' k' c']] w fun e w' => e = .returned (.bool false) ∧ Below w.heap.size w w' := by
 have H_v1 := fun W (hW : Below w.heap.size w W) => Valid_any b _ l W (h.below hW (Nat.le_refl _))
 rw [e_v1] at H_v1
 have K_v1 := Lib.hid H_v1
 have H_v2 := fun W (hW : Below w.heap.size w W) => Valid_any b' _ l' W (h'.below hW (Nat.le_refl _))
 rw [e_v2] at H_v2
 have K_v2 := Lib.hid H_v2
 have H_t1 := fun W (hW : Below w.heap.size w W) => tooLong_raw b _ l W (h.below hW (Nat.le_refl _))
 rw [e_t1] at H_t1
 have K_t1 := Lib.hid H_t1
 have H_t2 := fun W (hW : Below w.heap.size w W) => tooLong_raw b' _ l' W (h'.below hW (Nat.le_refl _))
 rw [e_t2] at H_t2
 have K_t2 := Lib.hid H_t2
 have H_z2 := fun W (hW : Below w.heap.size w W) => isZero_raw b' _ l' W (h'.below hW (Nat.le_refl _))
 rw [e_z2] at H_z2
 have K_z2 := Lib.hid H_z2
 clear H_v1 e_v1 H_v2 e_v2 H_t1 e_t1 H_t2 e_t2 H_z2 e_z2 h h'
 have hB := (Below.refl w.heap.size w).alloc (Nat.le_refl _) (.cells #[.bool b, .slice a k c, .bool b', .slice a' k' c'] 101)
 have xx := Bk.new w #[.bool b, .slice a k c, .bool b', .slice a' k' c'] 101
 obtain ⟨p0, p1, p2, p3⟩ := xx.cells4
 go_enter Tryz.func113, Tryz.ntmps113
 go_wp2_with fail
 refine (K_v1.out _ hB).mono ?_
 rintro e wx ⟨rfl, hb⟩
 replace xx := xx.on hb; clear p0 p1 p2 p3
 obtain ⟨p0, p1, p2, p3⟩ := xx.cells4
 replace hB := hB.trans (hb.mono hB.size); clear hb
 go_wp2_with fail
 refine (K_v2.out _ hB).mono ?_
 rintro e wx ⟨rfl, hb⟩
 replace xx := xx.on hb; clear p0 p1 p2 p3
 obtain ⟨p0, p1, p2, p3⟩ := xx.cells4
 replace hB := hB.trans (hb.mono hB.size); clear hb
 go_wp2_with fail
 refine (K_t1.out _ hB).mono ?_
 rintro e wx ⟨rfl, hb⟩
 replace xx := xx.on hb; clear p0 p1 p2 p3
 obtain ⟨p0, p1, p2, p3⟩ := xx.cells4
 replace hB := hB.trans (hb.mono hB.size); clear hb
 go_wp2_with fail
 refine (K_t2.out _ hB).mono ?_
 rintro e wx ⟨rfl, hb⟩
 replace xx := xx.on hb; clear p0 p1 p2 p3
 obtain ⟨p0, p1, p2, p3⟩ := xx.cells4
 replace hB := hB.trans (hb.mono hB.size); clear hb
 go_wp2_with fail
 refine (K_z2.out _ hB).mono ?_
 rintro e wx ⟨rfl, hb⟩
 replace xx := xx.on hb; clear p0 p1 p2 p3
 obtain ⟨p0, p1, p2, p3⟩ := xx.cells4
 replace hB := hB.trans (hb.mono hB.size); clear hb
 have HB := Lib.hid hB
 clear hB xx
 go_wp2
 go_ret
 exact ⟨rfl, HB.out⟩
theorem valid_f (b : Bool) (a : Option Addr) (k c : Nat) (l : List Nat) (a' : Option Addr) (k' c' : Nat) (l' : List Nat) (w : World) (h : Lim w (.slice a k c) l) (h' : Lim w (.slice a' k' c') l') (e_v1 : (vld b l) = true) (e_v2 : (vld true l') = true) (e_t1 : (decide (256 < l.length)) = false) (e_t2 : (decide (256 < l'.length)) = false) (e_z2 : (decide (l' = [])) = false) :
  Calls Tryz.prog 113 #[.agg #[.bool b, .slice a k c, .bool true, .slice a' k' c']] w fun e w' => e = .returned (.bool false) ∧ Below w.heap.size w w' := by
 have H_v1 := fun W (hW : Below w.heap.size w W) => Valid_any b _ l W (h.below hW (Nat.le_refl _))
 rw [e_v1] at H_v1
 have K_v1 := Lib.hid H_v1
 have H_v2 := fun W (hW : Below w.heap.size w W) => Valid_any true _ l' W (h'.below hW (Nat.le_refl _))
 rw [e_v2] at H_v2
 have K_v2 := Lib.hid H_v2
 have H_t1 := fun W (hW : Below w.heap.size w W) => tooLong_raw b _ l W (h.below hW (Nat.le_refl _))
 rw [e_t1] at H_t1
 have K_t1 := Lib.hid H_t1
 have H_t2 := fun W (hW : Below w.heap.size w W) => tooLong_raw true _ l' W (h'.below hW (Nat.le_refl _))
 rw [e_t2] at H_t2
 have K_t2 := Lib.hid H_t2
 have H_z2 := fun W (hW : Below w.heap.size w W) => isZero_raw true _ l' W (h'.below hW (Nat.le_refl _))
 rw [e_z2] at H_z2
 have K_z2 := Lib.hid H_z2
 skip
 clear H_v1 e_v1 H_v2 e_v2 H_t1 e_t1 H_t2 e_t2 H_z2 e_z2 h h'
 have hB := (Below.refl w.heap.size w).alloc (Nat.le_refl _) (.cells #[.bool b, .slice a k c, .bool true, .slice a' k' c'] 101)
 have xx := Bk.new w #[.bool b, .slice a k c, .bool true, .slice a' k' c'] 101
 obtain ⟨p0, p1, p2, p3⟩ := xx.cells4
 go_enter Tryz.func113, Tryz.ntmps113
 go_wp2_with fail
 refine (K_v1.out _ hB).mono ?_
 rintro e wx ⟨rfl, hb⟩
 replace xx := xx.on hb; clear p0 p1 p2 p3
 obtain ⟨p0, p1, p2, p3⟩ := xx.cells4
 replace hB := hB.trans (hb.mono hB.size); clear hb
 go_wp2_with fail
 refine (K_v2.out _ hB).mono ?_
 rintro e wx ⟨rfl, hb⟩
 replace xx := xx.on hb; clear p0 p1 p2 p3
 obtain ⟨p0, p1, p2, p3⟩ := xx.cells4
 replace hB := hB.trans (hb.mono hB.size); clear hb
 go_wp2_with fail
 refine (K_t1.out _ hB).mono ?_
 rintro e wx ⟨rfl, hb⟩
 replace xx := xx.on hb; clear p0 p1 p2 p3
 obtain ⟨p0, p1, p2, p3⟩ := xx.cells4
 replace hB := hB.trans (hb.mono hB.size); clear hb
 go_wp2_with fail
 refine (K_t2.out _ hB).mono ?_
 rintro e wx ⟨rfl, hb⟩
 replace xx := xx.on hb; clear p0 p1 p2 p3
 obtain ⟨p0, p1, p2, p3⟩ := xx.cells4
 replace hB := hB.trans (hb.mono hB.size); clear hb
 go_wp2_with fail
 refine (K_z2.out _ hB).mono ?_
 rintro e wx ⟨rfl, hb⟩
 replace xx := xx.on hb; clear p0 p1 p2 p3
 obtain ⟨p0, p1, p2, p3⟩ := xx.cells4
 replace hB := hB.trans (hb.mono hB.size); clear hb
 have HB := Lib.hid hB
 clear hB xx
 go_wp2
 go_ret
 exact ⟨rfl, HB.out⟩
theorem valid_g (b : Bool) (a : Option Addr) (k c : Nat) (l : List Nat) (a' : Option Addr) (k' c' : Nat) (l' : List Nat) (w : World) (h : Lim w (.slice a k c) l) (h' : Lim w (.slice a' k' c') l') (e_v1 : (vld b l) = true) (e_v2 : (vld false l') = true) (e_t1 : (decide (256 < l.length)) = false) (e_t2 : (decide (256 < l'.length)) = false) (e_z2 : (decide (l' = [])) = false) (e_o2 : (decide (false = false ∧ l' = [1])) = true) :
  Calls Tryz.prog 113 #[.agg #[.bool b, .slice a k c, .bool false, .slice a' k' c']] w fun e w' => e = .returned (.bool true) ∧ Below w.heap.size w w' := by
 have H_v1 := fun W (hW : Below w.heap.size w W) => Valid_any b _ l W (h.below hW (Nat.le_refl _))
 rw [e_v1] at H_v1
 have K_v1 := Lib.hid H_v1
 have H_v2 := fun W (hW : Below w.heap.size w W) => Valid_any false _ l' W (h'.below hW (Nat.le_refl _))
 rw [e_v2] at H_v2
 have K_v2 := Lib.hid H_v2
 have H_t1 := fun W (hW : Below w.heap.size w W) => tooLong_raw b _ l W (h.below hW (Nat.le_refl _))
 rw [e_t1] at H_t1
 have K_t1 := Lib.hid H_t1
 have H_t2 := fun W (hW : Below w.heap.size w W) => tooLong_raw false _ l' W (h'.below hW (Nat.le_refl _))
 rw [e_t2] at H_t2
 have K_t2 := Lib.hid H_t2
 have H_z2 := fun W (hW : Below w.heap.size w W) => isZero_raw false _ l' W (h'.below hW (Nat.le_refl _))
 rw [e_z2] at H_z2
 have K_z2 := Lib.hid H_z2
 have H_o2 := fun W (hW : Below w.heap.size w W) => isOne_raw false _ l' W (h'.below hW (Nat.le_refl _))
 rw [e_o2] at H_o2
 have K_o2 := Lib.hid H_o2
 skip
 clear H_v1 e_v1 H_v2 e_v2 H_t1 e_t1 H_t2 e_t2 H_z2 e_z2 H_o2 e_o2 h h'
 have hB := (Below.refl w.heap.size w).alloc (Nat.le_refl _) (.cells #[.bool b, .slice a k c, .bool false, .slice a' k' c'] 101)
 have xx := Bk.new w #[.bool b, .slice a k c, .bool false, .slice a' k' c'] 101
 obtain ⟨p0, p1, p2, p3⟩ := xx.cells4
 go_enter Tryz.func113, Tryz.ntmps113
 go_wp2_with fail
 refine (K_v1.out _ hB).mono ?_
 rintro e wx ⟨rfl, hb⟩
 replace xx := xx.on hb; clear p0 p1 p2 p3
 obtain ⟨p0, p1, p2, p3⟩ := xx.cells4
 replace hB := hB.trans (hb.mono hB.size); clear hb
 go_wp2_with fail
 refine (K_v2.out _ hB).mono ?_
 rintro e wx ⟨rfl, hb⟩
 replace xx := xx.on hb; clear p0 p1 p2 p3
 obtain ⟨p0, p1, p2, p3⟩ := xx.cells4
 replace hB := hB.trans (hb.mono hB.size); clear hb
 go_wp2_with fail
 refine (K_t1.out _ hB).mono ?_
 rintro e wx ⟨rfl, hb⟩
 replace xx := xx.on hb; clear p0 p1 p2 p3
 obtain ⟨p0, p1, p2, p3⟩ := xx.cells4
 replace hB := hB.trans (hb.mono hB.size); clear hb
 go_wp2_with fail
 refine (K_t2.out _ hB).mono ?_
 rintro e wx ⟨rfl, hb⟩
 replace xx := xx.on hb; clear p0 p1 p2 p3
 obtain ⟨p0, p1, p2, p3⟩ := xx.cells4
 replace hB := hB.trans (hb.mono hB.size); clear hb
 go_wp2_with fail
 refine (K_z2.out _ hB).mono ?_
 rintro e wx ⟨rfl, hb⟩
 replace xx := xx.on hb; clear p0 p1 p2 p3
 obtain ⟨p0, p1, p2, p3⟩ := xx.cells4
 replace hB := hB.trans (hb.mono hB.size); clear hb
 go_wp2_with fail
 refine (K_o2.out _ hB).mono ?_
 rintro e wx ⟨rfl, hb⟩
 replace xx := xx.on hb; clear p0 p1 p2 p3
 obtain ⟨p0, p1, p2, p3⟩ := xx.cells4
 replace hB := hB.trans (hb.mono hB.size); clear hb
 have HB := Lib.hid hB
 clear hB xx
 go_wp2
 go_ret
 exact ⟨rfl, HB.out⟩
theorem valid_h (b : Bool) (a : Option Addr) (k c : Nat) (l : List Nat) (a' : Option Addr) (k' c' : Nat) (l' : List Nat) (w : World) (h : Lim w (.slice a k c) l) (h' : Lim w (.slice a' k' c') l') (e_v1 : (vld b l) = true) (e_v2 : (vld false l') = true) (e_t1 : (decide (256 < l.length)) = false) (e_t2 : (decide (256 < l'.length)) = false) (e_z2 : (decide (l' = [])) = false) (e_o2 : (decide (false = false ∧ l' = [1])) = false) (n d : Int) (hn : Sz 1024 n) (hd : Sz 1024 d) (hd0 : d ≠ 0) (nn : Num w (.agg #[.bool b, .slice a k c]) n) (nd : Num w (.agg #[.bool false, .slice a' k' c']) d) :
  Calls Tryz.prog 113 #[.agg #[.bool b, .slice a k c, .bool false, .slice a' k' c']] w fun e w' => e = .returned (.bool (Nat.gcd n.natAbs d.natAbs == 1)) ∧ Below w.heap.size w w' := by
 have H_v1 := fun W (hW : Below w.heap.size w W) => Valid_any b _ l W (h.below hW (Nat.le_refl _))
 rw [e_v1] at H_v1
 have K_v1 := Lib.hid H_v1
 have H_v2 := fun W (hW : Below w.heap.size w W) => Valid_any false _ l' W (h'.below hW (Nat.le_refl _))
 rw [e_v2] at H_v2
 have K_v2 := Lib.hid H_v2
 have H_t1 := fun W (hW : Below w.heap.size w W) => tooLong_raw b _ l W (h.below hW (Nat.le_refl _))
 rw [e_t1] at H_t1
 have K_t1 := Lib.hid H_t1
 have H_t2 := fun W (hW : Below w.heap.size w W) => tooLong_raw false _ l' W (h'.below hW (Nat.le_refl _))
 rw [e_t2] at H_t2
 have K_t2 := Lib.hid H_t2
 have H_z2 := fun W (hW : Below w.heap.size w W) => isZero_raw false _ l' W (h'.below hW (Nat.le_refl _))
 rw [e_z2] at H_z2
 have K_z2 := Lib.hid H_z2
 have H_o2 := fun W (hW : Below w.heap.size w W) => isOne_raw false _ l' W (h'.below hW (Nat.le_refl _))
 rw [e_o2] at H_o2
 have K_o2 := Lib.hid H_o2
 have hg := gcd_len (n := n.natAbs) hd (by omega)
 have HG := Lib.hid (fun W (hW : Below w.heap.size w W) => Gcd_ok _ _ n d hn hd W (nn.below hW (Nat.le_refl _)) (nd.below hW (Nat.le_refl _)) hg)
 clear hg H_v1 e_v1 H_v2 e_v2 H_t1 e_t1 H_t2 e_t2 H_z2 e_z2 H_o2 e_o2 h h' hn hd hd0 nn nd
 have hB := (Below.refl w.heap.size w).alloc (Nat.le_refl _) (.cells #[.bool b, .slice a k c, .bool false, .slice a' k' c'] 101)
 have xx := Bk.new w #[.bool b, .slice a k c, .bool false, .slice a' k' c'] 101
 obtain ⟨p0, p1, p2, p3⟩ := xx.cells4
 go_enter Tryz.func113, Tryz.ntmps113
 go_wp2_with fail
 refine (K_v1.out _ hB).mono ?_
 rintro e wx ⟨rfl, hb⟩
 replace xx := xx.on hb; clear p0 p1 p2 p3
 obtain ⟨p0, p1, p2, p3⟩ := xx.cells4
 replace hB := hB.trans (hb.mono hB.size); clear hb
 go_wp2_with fail
 refine (K_v2.out _ hB).mono ?_
 rintro e wx ⟨rfl, hb⟩
 replace xx := xx.on hb; clear p0 p1 p2 p3
 obtain ⟨p0, p1, p2, p3⟩ := xx.cells4
 replace hB := hB.trans (hb.mono hB.size); clear hb
 go_wp2_with fail
 refine (K_t1.out _ hB).mono ?_
 rintro e wx ⟨rfl, hb⟩
 replace xx := xx.on hb; clear p0 p1 p2 p3
 obtain ⟨p0, p1, p2, p3⟩ := xx.cells4
 replace hB := hB.trans (hb.mono hB.size); clear hb
 go_wp2_with fail
 refine (K_t2.out _ hB).mono ?_
 rintro e wx ⟨rfl, hb⟩
 replace xx := xx.on hb; clear p0 p1 p2 p3
 obtain ⟨p0, p1, p2, p3⟩ := xx.cells4
 replace hB := hB.trans (hb.mono hB.size); clear hb
 go_wp2_with fail
 refine (K_z2.out _ hB).mono ?_
 rintro e wx ⟨rfl, hb⟩
 replace xx := xx.on hb; clear p0 p1 p2 p3
 obtain ⟨p0, p1, p2, p3⟩ := xx.cells4
 replace hB := hB.trans (hb.mono hB.size); clear hb
 go_wp2_with fail
 refine (K_o2.out _ hB).mono ?_
 rintro e wx ⟨rfl, hb⟩
 replace xx := xx.on hb; clear p0 p1 p2 p3
 obtain ⟨p0, p1, p2, p3⟩ := xx.cells4
 replace hB := hB.trans (hb.mono hB.size); clear hb
 go_wp2_with fail
 refine (HG.out _ hB).mono ?_
 rintro e wx ⟨⟨v, rfl, ⟨s2, rfl, hl⟩⟩, hb⟩
 obtain ⟨a3, c3, rfl⟩ := lf_slice hl
 replace hB := hB.trans (hb.mono hB.size); clear hb p0 p1 p2 p3 xx
 have hi := fun W (hW : Below wx.heap.size wx W) => isOne_raw (decide (((Nat.gcd n.natAbs d.natAbs : Nat) : Int) < 0)) _ _ W (hl.1.below hW (Nat.le_refl _))
 clear hl
 obtain ⟨g, hg⟩ : ∃ g : Nat, g = Nat.gcd n.natAbs d.natAbs := ⟨_, rfl⟩
 rw [← hg] at hi ⊢
 simp only [Int.natAbs_natCast] at hi
 have HI := Lib.hid hi
 have HB := Lib.hid (hB.alloc hB.size (.cells #[.bool (decide ((g : Int) < 0)), .slice a3 (dig g).length c3] 24))
 have HGG := Lib.hid hg
 clear hg hi hB
 go_wp2_with fail
 refine (HI.out _ ((Below.refl _ _).alloc (Nat.le_refl _) _)).mono ?_
 rintro e wy ⟨rfl, hb⟩
 have HB2 := Lib.hid (HB.out.trans (hb.mono HB.out.size))
 clear hb
 go_wp2
 go_ret
 refine ⟨?_, HB2.out⟩
 have e : decide (dig g = [1]) = (g == 1) := by rw [Bool.eq_iff_iff]; simp [dig_one_iff]
 show Ending.returned (Value.bool (decide (dig g = [1]))) = _
 rw [e, HGG.out]
theorem valid_raw (b : Bool) (a : Option Addr) (k c : Nat) (l : List Nat) (b' : Bool) (a' : Option Addr) (k' c' : Nat) (l' : List Nat) (w : World) (h : Lim w (.slice a k c) l) (hm : Lm l) (h' : Lim w (.slice a' k' c') l') (hm' : Lm l') :
  Calls Tryz.prog 113 #[.agg #[.bool b, .slice a k c, .bool b', .slice a' k' c']] w fun e w' => e = .returned (.bool (fvld b l b' l')) ∧ Below w.heap.size w w' := by
 unfold fvld
 cases e1 : vld b l with
 | false => exact valid_a b a k c l b' a' k' c' l' w h h' e1
 | true =>
 cases e2 : vld b' l' with
 | false => exact valid_b b a k c l b' a' k' c' l' w h h' e1 e2
 | true =>
 cases e3 : decide (256 < l.length) with
 | true =>
  rw [decide_eq_false (show ¬ l.length ≤ 256 by have := of_decide_eq_true e3; omega)]
  exact valid_c b a k c l b' a' k' c' l' w h h' e1 e2 e3
 | false =>
 rw [decide_eq_true (show l.length ≤ 256 by have := of_decide_eq_false e3; omega)]
 cases e4 : decide (256 < l'.length) with
 | true =>
  rw [decide_eq_false (show ¬ l'.length ≤ 256 by have := of_decide_eq_true e4; omega)]
  exact valid_d b a k c l b' a' k' c' l' w h h' e1 e2 e3 e4
 | false =>
 rw [decide_eq_true (show l'.length ≤ 256 by have := of_decide_eq_false e4; omega)]
 cases e5 : decide (l' = []) with
 | true =>
  rw [decide_eq_false (show ¬ l' ≠ [] from fun g => g (of_decide_eq_true e5))]
  exact valid_e b a k c l b' a' k' c' l' w h h' e1 e2 e3 e4 e5
 | false =>
 have hne := of_decide_eq_false e5
 rw [decide_eq_true (show l' ≠ [] from hne)]
 cases b' with
 | true => exact valid_f b a k c l a' k' c' l' w h h' e1 e2 e3 e4 e5
 | false =>
 obtain ⟨n, _, en, nn⟩ := num_of_vld e1 h hm
 obtain ⟨d, ed1, ed, nd⟩ := num_of_vld e2 h' hm'
 have hd0 : d ≠ 0 := fun g => hne (by rw [ed, g]; exact dig_zero)
 cases e6 : decide (false = false ∧ l' = [1]) with
 | true =>
  have e7 := (of_decide_eq_true e6).2
  subst e7
  have : (Nat.gcd (val l) (val [1]) == 1) = true := by rw [beq_iff_eq]; exact Nat.gcd_one_right _
  rw [this]
  exact valid_g b a k c l a' k' c' [1] w h h' e1 e2 e3 e4 e5 e6
 | false =>
  rw [show val l = n.natAbs from by rw [en, val_dig], show val l' = d.natAbs from by rw [ed, val_dig]]
  exact valid_h b a k c l a' k' c' l' w h h' e1 e2 e3 e4 e5 e6 n d (show (dig n.natAbs).length ≤ 1024 by rw [← en]; have := of_decide_eq_false e3; omega) (show (dig d.natAbs).length ≤ 1024 by rw [← ed]; have := of_decide_eq_false e4; omega) hd0 nn nd
theorem valid_ok (v : Value) (q : Rat) (hq : Fz 256 256 q) (w : World) (h : Fra w v q) :
  Calls Tryz.prog 113 #[v] w fun e w' => e = .returned (.bool true) ∧ Below w.heap.size w w' := by
 obtain ⟨s, s', rfl, h1, h2⟩ := h
 obtain ⟨a, c, rfl⟩ := lim_slice h1
 obtain ⟨a', c', rfl⟩ := lim_slice h2
 have := valid_raw (decide (q.num < 0)) _ _ _ _ false _ _ _ _ w h1 (dig_Lm _) h2 (dig_Lm _)
 rwa [fvld_fra hq] at this
end Go.Proofs.YtmbcnfogjncdaaaGreat
