/-
Sizes of numbers; 'usable' of numbers.
-/
import Derived.Test.YtodmbklednehbaaInts
import Derived.Test.YtodmbklednehbaaOpen
namespace Go.Proofs.Ytodmbklednehbaa
open Go.RowKit Wh

/-- A number of at most n limbs. -/
def Sz (n : Nat) (z : Int) : Prop := (dig z.natAbs).length ≤ n
theorem Sz.lt {n : Nat} {z : Int} (h : Sz n z) : z.natAbs < 65536 ^ n := (length_dig_le _ _).1 h
theorem Sz.of_lt {n : Nat} {z : Int} (h : z.natAbs < 65536 ^ n) : Sz n z := (length_dig_le _ _).2 h
theorem Sz.len {n : Nat} {z : Int} (h : Sz n z) (hn : n ≤ 1024) : (dig z.natAbs).length ≤ 1024 := Nat.le_trans h hn
theorem Sz.len2 {n : Nat} {z : Int} (h : Sz n z) : (dig z.natAbs).length ≤ n := h
theorem Sz.mono {n m : Nat} {z : Int} (h : Sz n z) (hn : n ≤ m) : Sz m z := Nat.le_trans h hn
theorem Sz.neg {n : Nat} {z : Int} (h : Sz n z) : Sz n (-z) := by unfold Sz; rw [Int.natAbs_neg]; exact h
theorem Sz.add {n m : Nat} {a b : Int} (h : Sz n a) (g : Sz m b) : Sz (max n m + 1) (a + b) := by
  refine Sz.of_lt ?_
  have h1 := (h.mono (Nat.le_max_left n m)).lt
  have h2 := (g.mono (Nat.le_max_right n m)).lt
  rw [Nat.pow_succ]
  have := Int.natAbs_add_le a b
  omega
theorem Sz.sub {n m : Nat} {a b : Int} (h : Sz n a) (g : Sz m b) : Sz (max n m + 1) (a - b) := by
  rw [Int.sub_eq_add_neg]; exact h.add g.neg
theorem Sz.mul {n m : Nat} {a b : Int} (h : Sz n a) (g : Sz m b) : Sz (n + m) (a * b) := by
  refine Sz.of_lt ?_
  rw [Int.natAbs_mul, Nat.pow_add]
  exact Nat.lt_of_le_of_lt (Nat.mul_le_mul_left _ (Nat.le_of_lt g.lt)) (Nat.mul_lt_mul_of_pos_right h.lt (Nat.pow_pos (by decide)))
theorem Sz.small {z : Int} (h : z.natAbs < 65536) : Sz 1 z := Sz.of_lt (by simpa using h)

/-- A valid sign and limbs are a number. -/
theorem num_of_vld {W : World} {b : Bool} {s : Value} {l : List Nat} (hv : vld b l = true) (hl : Lim W s l) (hm : Lm l) : ∃ z : Int, b = decide (z < 0) ∧ l = dig z.natAbs ∧ Num W (.agg #[.bool b, s]) z := by
  have hd : l = dig (val l) := by
    refine (dig_val hm fun hne e => ?_).symm
    unfold vld at hv
    rw [if_neg hne] at hv
    simp only [Bool.and_eq_true, decide_eq_true_eq] at hv
    refine hv.2 ?_
    rw [List.getLast_eq_getElem] at e
    rw [getD_lt_length (by have := List.length_pos_iff.2 hne; omega), e]
  have h0 : l = [] → b = false := fun e => by unfold vld at hv; rw [if_pos e] at hv; simpa using hv
  have e0 : l = [] ↔ val l = 0 := by
    constructor
    · intro e; rw [e]; rfl
    · intro e; rw [hd, e, dig_zero]
  cases b with
  | false =>
    refine ⟨(val l : Int), ?_, by rw [Int.natAbs_natCast]; exact hd, s, ?_, by rw [Int.natAbs_natCast, ← hd]; exact hl⟩ <;> simp
  | true =>
    have hp : val l ≠ 0 := fun e => by have := h0 (e0.2 e); simp at this
    have e1 : decide (-(val l : Int) < 0) = true := decide_eq_true (by omega)
    exact ⟨-(val l : Int), e1.symm, by rw [Int.natAbs_neg, Int.natAbs_natCast]; exact hd, s, by rw [e1], by rw [Int.natAbs_neg, Int.natAbs_natCast, ← hd]; exact hl⟩

theorem lim_len {W : World} {a : Option Addr} {k c : Nat} {l : List Nat} (h : Lim W (.slice a k c) l) : k = l.length := by
  obtain ⟨a', c', e, -⟩ := h; injection e

theorem usable1_num' (M B : Nat) (hM : M ≤ 1024) (z1 : Int) {b1 : Bool} {s1 : Value} (w : World) (c1 : w.cell? ⟨B, 0, none⟩ = some (.bool b1)) (c1' : w.cell? ⟨B, 1, none⟩ = some s1) (h1 : Num w (.agg #[.bool b1, s1]) z1) (l1 : (dig z1.natAbs).length ≤ M) :
    Calls Try.prog 28 #[.int .i64 (M : Int), .slice (some ⟨B, 0, none⟩) 1 1] w fun e w' => e = .returned (.bool true) ∧ Below w.heap.size w w' := by
  obtain ⟨e1, g1⟩ := neg_num h1
  have v1 := vld_num z1 (Nat.le_trans l1 hM)
  rw [← e1] at v1
  have := usable1_any M B b1 s1 (dig z1.natAbs) w c1 c1' g1
  rwa [decide_eq_true l1, v1, Bool.and_true] at this

theorem usable2_num' (M B : Nat) (hM : M ≤ 1024) (z1 : Int) (z2 : Int) {b1 : Bool} {s1 : Value} {b2 : Bool} {s2 : Value} (w : World) (c1 : w.cell? ⟨B, 0, none⟩ = some (.bool b1)) (c1' : w.cell? ⟨B, 1, none⟩ = some s1) (c2 : w.cell? ⟨B, 2, none⟩ = some (.bool b2)) (c2' : w.cell? ⟨B, 3, none⟩ = some s2) (h1 : Num w (.agg #[.bool b1, s1]) z1) (h2 : Num w (.agg #[.bool b2, s2]) z2) (l1 : (dig z1.natAbs).length ≤ M) (l2 : (dig z2.natAbs).length ≤ M) :
    Calls Try.prog 28 #[.int .i64 (M : Int), .slice (some ⟨B, 0, none⟩) 2 2] w fun e w' => e = .returned (.bool true) ∧ Below w.heap.size w w' := by
  obtain ⟨e1, g1⟩ := neg_num h1
  have v1 := vld_num z1 (Nat.le_trans l1 hM)
  rw [← e1] at v1
  obtain ⟨e2, g2⟩ := neg_num h2
  have v2 := vld_num z2 (Nat.le_trans l2 hM)
  rw [← e2] at v2
  have := usable2_any M B b1 s1 (dig z1.natAbs) b2 s2 (dig z2.natAbs) w c1 c1' c2 c2' g1 g2
  rwa [decide_eq_true l1, v1, decide_eq_true l2, v2, Bool.and_true] at this

theorem usable3_num' (M B : Nat) (hM : M ≤ 1024) (z1 : Int) (z2 : Int) (z3 : Int) {b1 : Bool} {s1 : Value} {b2 : Bool} {s2 : Value} {b3 : Bool} {s3 : Value} (w : World) (c1 : w.cell? ⟨B, 0, none⟩ = some (.bool b1)) (c1' : w.cell? ⟨B, 1, none⟩ = some s1) (c2 : w.cell? ⟨B, 2, none⟩ = some (.bool b2)) (c2' : w.cell? ⟨B, 3, none⟩ = some s2) (c3 : w.cell? ⟨B, 4, none⟩ = some (.bool b3)) (c3' : w.cell? ⟨B, 5, none⟩ = some s3) (h1 : Num w (.agg #[.bool b1, s1]) z1) (h2 : Num w (.agg #[.bool b2, s2]) z2) (h3 : Num w (.agg #[.bool b3, s3]) z3) (l1 : (dig z1.natAbs).length ≤ M) (l2 : (dig z2.natAbs).length ≤ M) (l3 : (dig z3.natAbs).length ≤ M) :
    Calls Try.prog 28 #[.int .i64 (M : Int), .slice (some ⟨B, 0, none⟩) 3 3] w fun e w' => e = .returned (.bool true) ∧ Below w.heap.size w w' := by
  obtain ⟨e1, g1⟩ := neg_num h1
  have v1 := vld_num z1 (Nat.le_trans l1 hM)
  rw [← e1] at v1
  obtain ⟨e2, g2⟩ := neg_num h2
  have v2 := vld_num z2 (Nat.le_trans l2 hM)
  rw [← e2] at v2
  obtain ⟨e3, g3⟩ := neg_num h3
  have v3 := vld_num z3 (Nat.le_trans l3 hM)
  rw [← e3] at v3
  have := usable3_any M B b1 s1 (dig z1.natAbs) b2 s2 (dig z2.natAbs) b3 s3 (dig z3.natAbs) w c1 c1' c2 c2' c3 c3' g1 g2 g3
  rwa [decide_eq_true l1, v1, decide_eq_true l2, v2, decide_eq_true l3, v3, Bool.and_true] at this

end Go.Proofs.Ytodmbklednehbaa
