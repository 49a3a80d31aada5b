/- A part of the proofs about fractions. -/
import Derived.Below
import Derived.Deep.RegionHeld3
import Derived.Laws.Bits64b
import Derived.Laws.BitsAllLaws
import Derived.Lib.Hide
import Derived.LoopIn
import Derived.LoopNIn
import Derived.OwnWalkIn
import Derived.RangeFuncBox
import Derived.RangeFuncLeaves
import Derived.Shelf.Abstract
import Derived.TacticsInMore
import Derived.Test.YtmbcnfogjncdaaaGreatProg
import Derived.WalkKit
import Derived.WalkSpells
set_option maxRecDepth 100000
set_option maxHeartbeats 2000000
namespace Go.Proofs.YtmbcnfogjncdaaaGreat
open Go Go.RowKit
section
variable {P : Program} {md : Region.Mode} {ops : Array Oper} {Q : Exit → Act → World → Prop} {S : World → Prop}
theorem drop_get {l : Array Oper} {i : Nat} {x : Oper} {r : List Oper} (h : l.toList.drop i = x :: r) : l[i]? = some x := by
 rw [← Array.getElem?_toList, ← List.head?_drop, h]; rfl
theorem tk {i : Nat} {oi : Oper} {r : List Oper} {v : Value} {fuel : Nat} {listed : Array Bool} {a : Act} {w : World} (hi : ops.toList.drop i = oi :: r)
  (hc : (Region.noSelect ops && Region.free md ops listed i && (Region.ready md ops listed).contains i) = true) (hQ : ∀ c a w, Q (.panic c) (a.put oi.dst v) w → Q (.panic c) a w)
  (hw : Region.wanted oi (yielded ops a.tmps) = true) (hy : ∀ w, S w → (execOp a.eval oi).run P w = .ok (.value v) w) (hS : S w)
  (h : wpAnyH P md ops Q S fuel (listed.setIfInBounds i true) (a.put oi.dst v) w) : wpAnyH P md ops Q S (fuel + 1) listed a w := by
 simp only [Bool.and_eq_true] at hc
 exact wpAnyH_take (drop_get hi) hc.1.1 hc.1.2 hc.2 hQ (.inl ⟨hw, hy⟩) hS h
theorem rd1 {i : Nat} {o : Oper} {r : List Oper} {fuel : Nat} {listed : Array Bool} {a : Act} {w : World} (hr : Region.ready md ops listed = [i]) (ho : ops.toList.drop i = o :: r)
  (h : ∀ K' : Act → World → Prop, Shut (∀ a w, S w → (S w → wpAnyH P md ops Q S fuel (listed.setIfInBounds i true) a w) → K' a w) → if Region.wanted o (yielded ops a.tmps) = true then Oper.wp P o a w K' Q else K' (a.put o.dst undef) w) :
  wpAnyH P md ops Q S (fuel + 1) listed a w := wpAnyH_ready hr (by simp) (AllReadyH.cons (drop_get ho) h AllReadyH.nil)
theorem rd2 {i j : Nat} {o o2 : Oper} {r r2 : List Oper} {fuel : Nat} {listed : Array Bool} {a : Act} {w : World} (hr : Region.ready md ops listed = [i, j]) (ho : ops.toList.drop i = o :: r) (ho2 : ops.toList.drop j = o2 :: r2)
  (h : ∀ K' : Act → World → Prop, Shut (∀ a w, S w → (S w → wpAnyH P md ops Q S fuel (listed.setIfInBounds i true) a w) → K' a w) → if Region.wanted o (yielded ops a.tmps) = true then Oper.wp P o a w K' Q else K' (a.put o.dst undef) w)
  (h2 : ∀ K' : Act → World → Prop, Shut (∀ a w, S w → (S w → wpAnyH P md ops Q S fuel (listed.setIfInBounds j true) a w) → K' a w) → if Region.wanted o2 (yielded ops a.tmps) = true then Oper.wp P o2 a w K' Q else K' (a.put o2.dst undef) w) :
  wpAnyH P md ops Q S (fuel + 1) listed a w := wpAnyH_ready hr (by simp) (AllReadyH.cons (drop_get ho) h (AllReadyH.cons (drop_get ho2) h2 AllReadyH.nil))
theorem tz (i : Nat) {oi : Oper} {r : List Oper} {v : Value} {fuel : Nat} {listed : Array Bool} {a : Act} {w : World}
  (h : wpAnyH P md ops Q S fuel (listed.setIfInBounds i true) (a.put oi.dst v) w)
  (hi : ops.toList.drop i = oi :: r := by exact rfl)
  (hc : (Region.noSelect ops && Region.free md ops listed i && (Region.ready md ops listed).contains i) = true := by kernel_rfl)
  (hQ : ∀ c a w, Q (.panic c) (a.put oi.dst v) w → Q (.panic c) a w := by exact fun _ _ _ h => h)
  (hw : Region.wanted oi (yielded ops a.tmps) = true := by rfl)
  (hS : S w := by assumption)
  (hy : ∀ w, S w → (execOp a.eval oi).run P w = .ok (.value v) w := by (intro w hSw; (try dsimp only at hSw); go_simp <;> (with_reducible rfl))) : wpAnyH P md ops Q S (fuel + 1) listed a w := tk hi hc hQ hw hy hS h
theorem rz (i : Nat) {o : Oper} {r : List Oper} {fuel : Nat} {listed : Array Bool} {a : Act} {w : World}
  (h : ∀ K' : Act → World → Prop, Shut (∀ a w, S w → (S w → wpAnyH P md ops Q S fuel (listed.setIfInBounds i true) a w) → K' a w) → if Region.wanted o (yielded ops a.tmps) = true then Oper.wp P o a w K' Q else K' (a.put o.dst undef) w)
  (hr : Region.ready md ops listed = [i] := by kernel_rfl) (ho : ops.toList.drop i = o :: r := by exact rfl) :
  wpAnyH P md ops Q S (fuel + 1) listed a w := rd1 hr ho h
theorem sa (l : List Value) (i : Nat) (v : Value) : l.toArray.setIfInBounds i v = (l.set i v).toArray := List.setIfInBounds_toArray l i v
end
theorem keep4 {W W' : World} {M B : Nat} {x0 x1 x2 x3 : Value} (hb : Below M W W') (q : B < M) (h : W.cell? ⟨B, 0, none⟩ = some x0 ∧ W.cell? ⟨B, 1, none⟩ = some x1 ∧ W.cell? ⟨B, 2, none⟩ = some x2 ∧ W.cell? ⟨B, 3, none⟩ = some x3) :
  W'.cell? ⟨B, 0, none⟩ = some x0 ∧ W'.cell? ⟨B, 1, none⟩ = some x1 ∧ W'.cell? ⟨B, 2, none⟩ = some x2 ∧ W'.cell? ⟨B, 3, none⟩ = some x3 :=
 ⟨(hb.cell (p := ⟨B, 0, none⟩) q).trans h.1, (hb.cell (p := ⟨B, 1, none⟩) q).trans h.2.1, (hb.cell (p := ⟨B, 2, none⟩) q).trans h.2.2.1, (hb.cell (p := ⟨B, 3, none⟩) q).trans h.2.2.2⟩
theorem stay1 {W : World} {B B' : Nat} {o : Nat} {x v0 v1 v2 v3 : Value} (h : W.cell? ⟨B, o, none⟩ = some x) (hne : B' ≠ B) : ((((W.setCell ⟨B', 0, none⟩ v0).setCell ⟨B', 1, none⟩ v1).setCell ⟨B', 2, none⟩ v2).setCell ⟨B', 3, none⟩ v3).cell? ⟨B, o, none⟩ = some x := by
 rw [← h]
 have e : ((((W.setCell ⟨B', 0, none⟩ v0).setCell ⟨B', 1, none⟩ v1).setCell ⟨B', 2, none⟩ v2).setCell ⟨B', 3, none⟩ v3).heap[B]? = W.heap[B]? :=
  (heap_setCell_other _ ⟨B', 3, none⟩ B v3 (Ne.symm hne)).trans ((heap_setCell_other _ ⟨B', 2, none⟩ B v2 (Ne.symm hne)).trans ((heap_setCell_other _ ⟨B', 1, none⟩ B v1 (Ne.symm hne)).trans (heap_setCell_other _ ⟨B', 0, none⟩ B v0 (Ne.symm hne))))
 unfold World.cell?
 simp only [e]
theorem stay4 {W : World} {B B' : Nat} {x0 x1 x2 x3 v0 v1 v2 v3 : Value} (h : W.cell? ⟨B, 0, none⟩ = some x0 ∧ W.cell? ⟨B, 1, none⟩ = some x1 ∧ W.cell? ⟨B, 2, none⟩ = some x2 ∧ W.cell? ⟨B, 3, none⟩ = some x3) (hne : B' ≠ B) :
  ((((W.setCell ⟨B', 0, none⟩ v0).setCell ⟨B', 1, none⟩ v1).setCell ⟨B', 2, none⟩ v2).setCell ⟨B', 3, none⟩ v3).cell? ⟨B, 0, none⟩ = some x0 ∧ ((((W.setCell ⟨B', 0, none⟩ v0).setCell ⟨B', 1, none⟩ v1).setCell ⟨B', 2, none⟩ v2).setCell ⟨B', 3, none⟩ v3).cell? ⟨B, 1, none⟩ = some x1 ∧
  ((((W.setCell ⟨B', 0, none⟩ v0).setCell ⟨B', 1, none⟩ v1).setCell ⟨B', 2, none⟩ v2).setCell ⟨B', 3, none⟩ v3).cell? ⟨B, 2, none⟩ = some x2 ∧ ((((W.setCell ⟨B', 0, none⟩ v0).setCell ⟨B', 1, none⟩ v1).setCell ⟨B', 2, none⟩ v2).setCell ⟨B', 3, none⟩ v3).cell? ⟨B, 3, none⟩ = some x3 :=
 ⟨stay1 h.1 hne, stay1 h.2.1 hne, stay1 h.2.2.1 hne, stay1 h.2.2.2 hne⟩
end Go.Proofs.YtmbcnfogjncdaaaGreat
namespace Wh
def val : List Nat → Nat
 | [] => 0
 | x :: l => x + 65536 * val l
def dig (n : Nat) : List Nat := if h : n = 0 then [] else (n % 65536) :: dig (n / 65536)
termination_by n
decreasing_by omega
def Lm (l : List Nat) : Prop := ∀ x ∈ l, x < 65536
@[simp] theorem val_nil : val [] = 0 := rfl
theorem val_cons (x : Nat) (l : List Nat) : val (x :: l) = x + 65536 * val l := rfl
theorem dig_zero : dig 0 = [] := by rw [dig]; simp
theorem dig_pos {n : Nat} (h : n ≠ 0) : dig n = (n % 65536) :: dig (n / 65536) := by rw [dig]; simp [h]
theorem Lm.nil : Lm [] := fun x h => by simp at h
theorem Lm.cons {x : Nat} {l : List Nat} (h : x < 65536) (hl : Lm l) : Lm (x :: l) := fun y hy => by
 rcases List.mem_cons.1 hy with rfl | hy
 · exact h
 · exact hl y hy
theorem Lm.head {x : Nat} {l : List Nat} (h : Lm (x :: l)) : x < 65536 := h x (by simp)
theorem Lm.tail {x : Nat} {l : List Nat} (h : Lm (x :: l)) : Lm l := fun y hy => h y (by simp [hy])
theorem Lm.append {a b : List Nat} (ha : Lm a) (hb : Lm b) : Lm (a ++ b) := fun y hy => by
 rcases List.mem_append.1 hy with hy | hy
 · exact ha y hy
 · exact hb y hy
theorem Lm.take {l : List Nat} (h : Lm l) (k : Nat) : Lm (l.take k) := fun y hy => h y (List.mem_of_mem_take hy)
theorem Lm.drop {l : List Nat} (h : Lm l) (k : Nat) : Lm (l.drop k) := fun y hy => h y (List.mem_of_mem_drop hy)
theorem Lm.getD {l : List Nat} (h : Lm l) (i : Nat) : l[i]?.getD 0 < 65536 := by
 cases hi : l[i]? with
 | none => simp
 | some v => simpa using h v (List.mem_of_getElem? hi)
theorem Lm.set {l : List Nat} (h : Lm l) (i : Nat) {x : Nat} (hx : x < 65536) : Lm (l.set i x) := fun y hy => by
 rcases List.mem_or_eq_of_mem_set hy with hy | rfl
 · exact h y hy
 · exact hx
theorem val_append (a b : List Nat) : val (a ++ b) = val a + 65536 ^ a.length * val b := by
 induction a with
 | nil => simp
 | cons x a ih =>
  simp only [List.cons_append, val_cons, ih, List.length_cons, Nat.pow_succ, Nat.mul_add]
  have : 65536 * (65536 ^ a.length * val b) = 65536 ^ a.length * 65536 * val b := by
   rw [← Nat.mul_assoc, Nat.mul_comm 65536]
  omega
theorem val_lt {l : List Nat} (h : Lm l) : val l < 65536 ^ l.length := by
 induction l with
 | nil => simp
 | cons x l ih =>
  have := ih h.tail
  have := h.head
  simp only [val_cons, List.length_cons, Nat.pow_succ]
  omega
theorem val_dig (n : Nat) : val (dig n) = n := by
 induction n using Nat.strongRecOn with
 | ind n ih =>
  by_cases h : n = 0
  · subst h; rw [dig_zero]; rfl
  · rw [dig_pos h, val_cons, ih _ (by omega)]; omega
theorem dig_Lm (n : Nat) : Lm (dig n) := by
 induction n using Nat.strongRecOn with
 | ind n ih =>
  by_cases h : n = 0
  · subst h; rw [dig_zero]; exact .nil
  · rw [dig_pos h]; exact .cons (by omega) (ih _ (by omega))
theorem dig_nil_iff (n : Nat) : dig n = [] ↔ n = 0 := by
 constructor
 · intro h; have := val_dig n; rw [h] at this; simpa using this.symm
 · rintro rfl; exact dig_zero
theorem dig_last (n : Nat) (h : dig n ≠ []) : (dig n).getLast h ≠ 0 := by
  induction n using Nat.strongRecOn with
  | ind n ih =>
    have h0 : n ≠ 0 := fun e => h (by rw [e, dig_zero])
    by_cases h1 : n / 65536 = 0
    · have e : dig n = [n % 65536] := by rw [dig_pos h0, h1, dig_zero]
      simp only [e, List.getLast_singleton]; omega
    · have hne : dig (n / 65536) ≠ [] := fun e => h1 ((dig_nil_iff _).1 e)
      have := ih (n / 65536) (by omega) hne
      simp only [dig_pos h0, List.getLast_cons hne]
      exact this
theorem dig_val {l : List Nat} (h : Lm l) (hl : ∀ hne : l ≠ [], l.getLast hne ≠ 0) : dig (val l) = l := by
 induction l with
 | nil => simp [dig_zero]
 | cons x l ih =>
  have hx := h.head
  have hv : val (x :: l) ≠ 0 := by
   rw [val_cons]
   cases l with
   | nil => have := hl (by simp); simp at this; simp; omega
   | cons y t =>
    have h2 : dig (val (y :: t)) = y :: t := ih h.tail (fun hne => by have := hl (by simp); rwa [List.getLast_cons hne] at this)
    have h3 : val (y :: t) ≠ 0 := fun e => by rw [e, dig_zero] at h2; cases h2
    omega
  rw [dig_pos hv, val_cons]
  have e1 : (x + 65536 * val l) % 65536 = x := by omega
  have e2 : (x + 65536 * val l) / 65536 = val l := by omega
  rw [e1, e2, ih h.tail]
  intro hne
  have := hl (by simp)
  rwa [List.getLast_cons hne] at this
theorem val_replicate_zero (n : Nat) : val (List.replicate n 0) = 0 := by
 induction n with
 | zero => rfl
 | succ n ih => rw [List.replicate_succ, val_cons, ih]
theorem dig_snoc {l : List Nat} {x : Nat} (h : Lm l) (hx : x < 65536) (h0 : x ≠ 0) : dig (val (l ++ [x])) = l ++ [x] :=
 dig_val (h.append (.cons hx .nil)) (fun hne => by simpa using h0)
theorem length_dig_le (n k : Nat) : (dig n).length ≤ k ↔ n < 65536 ^ k := by
  induction k generalizing n with
  | zero =>
    simp only [Nat.le_zero, List.length_eq_zero_iff, dig_nil_iff]; omega
  | succ k ih =>
    by_cases h : n = 0
    · subst h; rw [dig_zero]; simp; exact Nat.pos_of_ne_zero (by simp)
    · rw [dig_pos h, List.length_cons, Nat.succ_le_succ_iff, ih, Nat.pow_succ]
      constructor
      · intro h; omega
      · intro h; exact Nat.div_lt_of_lt_mul (by rw [Nat.mul_comm]; exact h)
theorem lt_pow_length (n : Nat) : n < 65536 ^ (dig n).length := (length_dig_le n _).1 (Nat.le_refl _)
theorem pow_le_of_length {n k : Nat} (h : k < (dig n).length) : 65536 ^ k ≤ n := by
 by_cases hn : n < 65536 ^ k
 · have := (length_dig_le n k).2 hn; omega
 · omega
theorem length_dig_mono {m n : Nat} (h : m ≤ n) : (dig m).length ≤ (dig n).length := by
 rw [length_dig_le]; have := lt_pow_length n; omega
theorem val_take_drop (l : List Nat) (i : Nat) : val l = val (l.take i) + 65536 ^ (min i l.length) * val (l.drop i) := by
 rw [← List.length_take, ← val_append, List.take_append_drop]
theorem getD_lt_length {l : List Nat} {i : Nat} (h : i < l.length) : l[i]?.getD 0 = l[i] := by simp [h]
theorem val_take_succ {l : List Nat} {k : Nat} (h : k < l.length) : val (l.take (k + 1)) = val (l.take k) + 65536 ^ k * (l[k]?.getD 0) := by
 rw [List.take_succ_eq_append_getElem h, val_append, List.length_take, Nat.min_eq_left (by omega), getD_lt_length h]
 simp [val_cons]
theorem val_drop_succ {l : List Nat} {k : Nat} (h : k < l.length) : val (l.drop k) = l[k]?.getD 0 + 65536 * val (l.drop (k + 1)) := by
 rw [List.drop_eq_getElem_cons h, val_cons, getD_lt_length h]
theorem val_inj {a b : List Nat} (ha : Lm a) (hb : Lm b) (hl : a.length = b.length) (hv : val a = val b) : a = b := by
  induction a generalizing b with
  | nil => cases b with
    | nil => rfl
    | cons => simp at hl
  | cons x a ih => cases b with
    | nil => simp at hl
    | cons y b =>
      have h1 := ha.head; have h2 := hb.head
      simp only [val_cons] at hv
      have e : x = y := by omega
      subst e
      rw [ih ha.tail hb.tail (by simpa using hl) (by omega)]
theorem val_zero_iff {l : List Nat} : val l = 0 ↔ ∀ x ∈ l, x = 0 := by
 induction l with
 | nil => simp
 | cons x l ih =>
  simp only [val_cons, List.mem_cons, forall_eq_or_imp, ← ih]
  omega
theorem val_set {l : List Nat} {i x : Nat} (h : i < l.length) (h0 : l[i]?.getD 0 = 0) : val (l.set i x) = val l + 65536 ^ i * x := by
 induction l generalizing i with
 | nil => simp at h
 | cons y l ih =>
  cases i with
  | zero => simp at h0; subst h0; simp [val_cons]; omega
  | succ i =>
   simp only [List.set_cons_succ, val_cons, ih (by simpa using h) (by simpa using h0), Nat.pow_succ]
   have : 65536 * (65536 ^ i * x) = 65536 ^ i * 65536 * x := by rw [← Nat.mul_assoc, Nat.mul_comm 65536]
   omega
end Wh
namespace Go.Proofs.YtmbcnfogjncdaaaGreat
open Go.RowKit Go.Shelf Wh
attribute [local go_sem] Oper.semAt_some
def Lim (W : World) (v : Value) (l : List Nat) : Prop :=
 ∃ a cap, v = .slice a l.length cap ∧ l.length ≤ cap ∧ (cap ≤ 9223372036854775807 ∧ l.length ≤ 70368744175616 ∧ (a = none → cap = 0)) ∧
  (l = [] ∨ ∃ b off, a = some ⟨b, off, none⟩ ∧ ∀ j, j < l.length → W.cell? ⟨b, off + j, none⟩ = some (.int .u16 ((l[j]?.getD 0 : Nat) : Int)))
theorem Lim.nil (W : World) : Lim W (.slice none 0 0) [] := ⟨none, 0, rfl, by simp, ⟨by omega, by simp, fun _ => rfl⟩, .inl rfl⟩
theorem add_eq (b off j : Nat) : (⟨b, off, none⟩ : Addr).add j = ⟨b, off + j, none⟩ := by
 unfold Addr.add
 by_cases h : j = 0
 · subst h; simp
 · simp [h]
def cellsOf (l : List Nat) : List Value := l.map fun (x : Nat) => Value.int .u16 (x : Int)
theorem cellsOf_get (l : List Nat) (j : Nat) (h : j < l.length) : (cellsOf l)[j]? = some (.int .u16 ((l[j]?.getD 0 : Nat) : Int)) := by
 simp [cellsOf, h]
theorem Lim.of_owns {W : World} {base : Nat} {v : Value} {n : Nat} {l : List Nat} (h : W.ownsRow base 59 1 v n (cellsOf l)) (hl : l.length ≤ 70368744175616) : Lim W v l := by
  have hn : l.length = n := by have := h.1; simp [cellsOf] at this; exact this
  subst hn
  rcases h.2 with ⟨rfl, h0⟩ | ⟨g, cap, cur, rfl, hg, hh, hc, hm, hcur, ht⟩
  · have : l = [] := List.eq_nil_of_length_eq_zero h0
    subst this
    exact Lim.nil W
  · unfold maxLen at hm
    refine ⟨_, cap, rfl, hc, ⟨hm, hl, fun e => by cases e⟩, .inr ⟨g, 0, rfl, fun j hj => ?_⟩⟩
    have := h.cells (g := g) rfl j _ (cellsOf_get l j hj)
    rwa [add_eq] at this
theorem lt_of_cell {W : World} {a : Addr} {v : Value} (h : W.cell? a = some v) : a.block < W.heap.size := by
 unfold World.cell? at h
 cases hb : W.heap[a.block]? with
 | none => simp [hb] at h
 | some o => exact (Array.getElem?_eq_some_iff.1 hb).1
theorem Lim.block {W : World} {a : Option Addr} {n cap : Nat} {l : List Nat} (h : Lim W (.slice a n cap) l) (hl : l ≠ []) : ∃ b off, a = some ⟨b, off, none⟩ ∧ b < W.heap.size ∧ ∀ j, j < l.length → W.cell? ⟨b, off + j, none⟩ = some (.int .u16 ((l[j]?.getD 0 : Nat) : Int)) := by
 obtain ⟨a', cap', e, _, _, h⟩ := h
 cases e
 rcases h with h | ⟨b, off, rfl, hc⟩
 · exact absurd h hl
 · exact ⟨b, off, rfl, lt_of_cell (hc 0 (by cases l with | nil => exact absurd rfl hl | cons => simp)), hc⟩
theorem Lim.below {W W' : World} {B : Nat} {v : Value} {l : List Nat} (h : Lim W v l) (hB : Below B W W') (hs : W.heap.size ≤ B) : Lim W' v l := by
 obtain ⟨a, cap, rfl, h1, h2, h⟩ := h
 refine ⟨a, cap, rfl, h1, h2, ?_⟩
 rcases h with h | ⟨b, off, rfl, hc⟩
 · exact .inl h
 · exact .inr ⟨b, off, rfl, fun j hj => (hB.cell (p := ⟨b, off + j, none⟩) (Nat.lt_of_lt_of_le (lt_of_cell (hc j hj)) hs)).trans (hc j hj)⟩
theorem take_down {n m : Nat} (h : m + 1 ≤ n) : (List.range n).reverse.take (n - m) = (List.range n).reverse.take (n - (m + 1)) ++ [m] := by
 have e : n - m = (n - (m + 1)) + 1 := by omega
 rw [e, List.take_succ_eq_append_getElem (by simp; omega)]
 congr 1
 simp
 omega
abbrev Ix (l : List Nat) := { i : Nat // i < l.length }
def encs (l : List Nat) (x : Ix l) : Array Value := #[.int .i64 ((x.1 : Nat) : Int), .int .u16 ((l[x.1]?.getD 0 : Nat) : Int)]
def KpD (n₀ Bs : Nat) (W W' : World) : Prop := Below n₀ W W' ∧ ∀ v, W.cell? ⟨Bs, 0, none⟩ = some v → W'.cell? ⟨Bs, 0, none⟩ = some v
theorem KpD.refl (n₀ Bs : Nat) (W : World) : KpD n₀ Bs W W := ⟨Below.refl _ _, fun _ h => h⟩
theorem KpD.trans {n₀ Bs : Nat} {A B C : World} (h : KpD n₀ Bs A B) (k : KpD n₀ Bs B C) : KpD n₀ Bs A C := ⟨h.1.trans k.1, fun v e => k.2 v (h.2 v e)⟩
theorem KpD.putObj {n₀ Bs : Nat} {w : World} (hn : n₀ ≤ w.heap.size) (W : World) (l : Nat) (o o' : Obj) (hl : w.heap.size ≤ l) (h : W.heap[l]? = some o) (h1 : o.isCells = false) (h2 : o.isWalk = false) : KpD n₀ Bs W (W.putObj l o') :=
 ⟨belowK_b hn W l o o' hl h h1 h2, fun v e => cell_kept e (grownBy_putObj' W l o') (fun r er => by cases er; exact ⟨_, h, h1⟩)⟩
theorem KpD.setCell {n₀ Bs : Nat} {W : World} {p : Addr} (u : Value) (h1 : n₀ ≤ p.block) (h2 : p.block ≠ Bs) : KpD n₀ Bs W (W.setCell p u) :=
 ⟨(Below.refl _ _).setCell h1 u, fun v e => by
  rw [← e]; exact World.cell?_of_block (Below.heap_setCell W p u Bs (fun e => h2 e.symm))⟩
theorem down1_in (F : Fence) (n : Nat) (hf : F.fn 169) (hro : F.round = none) (hn : 1 ≤ n) (y Bs n₀ b off cap : Nat) (l : List Nat) (hcap : l.length ≤ 70368744175616) (hb : b < n₀) (J Jx : List (Ix l) → World → Prop)
    (hY : ∀ pre x W, J pre W → pre.length < l.length → YieldAt F (n - 1) Tryz.prog y (encs l x) W fun e W' =>
      (e = .returned (.bool true) ∧ J (pre ++ [x]) W' ∧ KpD n₀ Bs W W') ∨ (e = .returned (.bool false) ∧ Jx (pre ++ [x]) W'))
    (W : World) (hBs : W.cell? ⟨Bs, 0, none⟩ = some (.slice (some ⟨b, off, none⟩) l.length cap)) (hc : ∀ j, j < l.length → W.cell? ⟨b, off + j, none⟩ = some (.int .u16 ((l[j]?.getD 0 : Nat) : Int))) (h0 : J [] W) :
    CallsIn F n Tryz.prog 169 #[.func (.yield y) #[] #[], .pointer (some ⟨Bs, 0, none⟩)] W fun e W' => (∃ v, e = .returned v) ∧
      ((∃ ys, ys.map Subtype.val = (List.range l.length).reverse ∧ J ys W') ∨ (∃ pre, (∃ k, k ≤ l.length ∧ pre.map Subtype.val = (List.range l.length).reverse.take k) ∧ Jx pre W')) := by
  refine callsIn_of_wp Tryz.func169 rfl hf ?_ hro
  simp only [Tryz.ntmps169, List.size_toArray, List.length_cons, List.length_nil, Nat.reduceAdd, Nat.reduceSub, Array.replicate_succ, Array.replicate_zero, List.push_toArray, List.append_toArray, List.nil_append, List.cons_append]
  gi_wp2
  gi_loopw [3] (fun i wr => ∃ (j : Nat) (pre : List (Ix l)), j ≤ l.length ∧ i = .int .i64 ((j : Int) - 1) ∧ pre.map Subtype.val = (List.range l.length).reverse.take (l.length - j) ∧ J pre wr ∧ KpD n₀ Bs W wr)
    (fun i _ => (intOf i + 1).toNat)
  case atStart => exact ⟨l.length, [], Nat.le_refl _, rfl, by simp, h0, KpD.refl _ _ _⟩
  case round =>
    obtain ⟨j, pre, hj, rfl, hpre, hJs, hnx⟩ := hrel
    have hBx : wr.cell? ⟨Bs, 0, none⟩ = some (.slice (some ⟨b, off, none⟩) l.length cap) := hnx.2 _ hBs
    have hlen : pre.length = l.length - j := by have := congrArg List.length hpre; simp at this; omega
    cases j with
    | zero =>
      rw [show ((0 : Nat) : Int) - 1 = -1 from rfl]
      have hpre' : pre.map Subtype.val = (List.range l.length).reverse := by
        rw [hpre, List.take_of_length_le (by simp)]
      clear hpre hlen hBs hc
      have H := Lib.hid hpre'
      clear hpre'
      gi_wp2
      go_end0
      exact ⟨⟨_, rfl⟩, .inl ⟨pre, H.out, hJs⟩⟩
    | succ m =>
      rw [show ((m + 1 : Nat) : Int) - 1 = (m : Int) from by omega]
      have hcx : wr.cell? ⟨b, off + m, none⟩ = some (.int .u16 ((l[m]?.getD 0 : Nat) : Int)) := (hnx.1.cell (p := ⟨b, off + m, none⟩) hb).trans (hc m (by omega))
      obtain ⟨fn, tmps, assign, body, hy, hR⟩ := hY pre ⟨m, by omega⟩ wr hJs (by omega)
      dsimp only [encs] at hy
      have hlt : m < l.length := by omega
      have hpre' : (pre ++ [(⟨m, hlt⟩ : Ix l)]).map Subtype.val = (List.range l.length).reverse.take (l.length - m) := by
        rw [List.map_append, hpre, take_down hj]; rfl
      have H := Lib.hid hpre'
      obtain ⟨x, hx⟩ : ∃ x : Nat, x = l[m]?.getD 0 := ⟨_, rfl⟩
      rw [← hx] at hcx hy
      clear hpre hlen hBs hc hpre' hx
      gi_wp2
      refine hR.mono ?_
      rintro e W3 (⟨rfl, hJ3, hk3⟩ | ⟨rfl, hJx3⟩)
      · gi_wp2
        go_roundw
        case rel => exact ⟨m, _, by omega, by go_num, H.out, hJ3, hnx.trans hk3⟩
        case measure => simp [intOf]
      · gi_wp2
        refine bodyPost_ret (results_none rfl _ _ _) rfl ?_
        exact ⟨⟨_, rfl⟩, .inr ⟨_, ⟨l.length - m, by omega, H.out⟩, hJx3⟩⟩
theorem down1_nil_in (F : Fence) (n : Nat) (hf : F.fn 169) (hro : F.round = none) (y Bs cap : Nat) (a : Option Addr) (l : List Nat) (J : List (Ix l) → World → Prop) (W : World) (hBs : W.cell? ⟨Bs, 0, none⟩ = some (.slice a 0 cap)) (h0 : J [] W) :
  CallsIn F n Tryz.prog 169 #[.func (.yield y) #[] #[], .pointer (some ⟨Bs, 0, none⟩)] W fun e W' => (∃ v, e = .returned v) ∧ J [] W' := by
 refine callsIn_of_wp Tryz.func169 rfl hf ?_ hro
 simp only [Tryz.ntmps169, List.size_toArray, List.length_cons, List.length_nil, Nat.reduceAdd, Nat.reduceSub, Array.replicate_succ, Array.replicate_zero, List.push_toArray, List.append_toArray, List.nil_append, List.cons_append]
 gi_wp2
 gi_loopw [3] (fun i wr => i = .int .i64 (-1) ∧ J [] wr) (fun _ _ => 0)
 case atStart => exact ⟨rfl, h0⟩
 case round =>
  obtain ⟨rfl, hJs⟩ := hrel
  gi_wp2
  go_end0
  exact ⟨⟨_, rfl⟩, hJs⟩
theorem down_in (F : Fence) (n : Nat) (hf : F.fn 135) (hro : F.round = none) (v : Value) (a : Option Addr) (len cap : Nat) (hv : v = .slice a len cap) (w : World) :
  CallsIn F n Tryz.prog 135 #[v] w fun e w' => e = .returned (.func (.func 169) #[] #[.pointer (some ⟨w.heap.size, 0, none⟩)]) ∧ w.alloc (.cells #[v] 22) = w' := by
 subst hv
 refine callsIn_of_wp Tryz.func135 rfl hf ?_ hro
 simp only [Tryz.ntmps135, List.size_toArray, List.length_cons, List.length_nil, Nat.reduceAdd, Nat.reduceSub, Array.replicate_succ, Array.replicate_zero, List.push_toArray, List.append_toArray, List.nil_append, List.cons_append]
 gi_wp2
 go_ret
 exact ⟨rfl, rfl⟩
def Sall (l : List Nat) (ys : List (Ix l)) : Prop := ys.map Subtype.val = (List.range l.length).reverse
def Spre (l : List Nat) (pre : List (Ix l)) : Prop := ∃ k, k ≤ l.length ∧ pre.map Subtype.val = (List.range l.length).reverse.take k
theorem down_stops (F : Fence) (n : Nat) (hf : F.fn 169) (hro : F.round = none) (hn : 1 ≤ n) (Bs n₀ : Nat) (sv : Value) (l : List Nat) (w : World) (hBs : Bs < w.heap.size) (hn₀ : n₀ ≤ w.heap.size)
    (hc : w.cell? ⟨Bs, 0, none⟩ = some sv) (wl : World) (hl : Lim wl sv l) (hwl : wl.heap.size ≤ n₀) (hbl : Below wl.heap.size wl w) :
    SeqStopsK F n Tryz.prog 169 #[.pointer (some ⟨Bs, 0, none⟩)] (encs l) (KpD n₀ Bs) (Sall l) (Spre l) l.length w := fun y J Jx W hW _ _ hY h0 => by
  have hc' := (hW.cell (p := ⟨Bs, 0, none⟩) hBs).trans hc
  obtain ⟨a, cap, rfl, h1, h2, h⟩ := hl
  rcases h with rfl | ⟨b, off, rfl, hcs⟩
  · exact (down1_nil_in F n hf hro y Bs cap a [] J W hc' h0).mono fun e W' ⟨he, hj⟩ => ⟨he, .inl ⟨[], by simp [Sall], hj⟩⟩
  · by_cases h0l : l = []
    · subst h0l
      exact (down1_nil_in F n hf hro y Bs cap _ [] J W hc' h0).mono fun e W' ⟨he, hj⟩ => ⟨he, .inl ⟨[], by simp [Sall], hj⟩⟩
    · have hb : b < wl.heap.size := lt_of_cell (hcs 0 (by cases l with | nil => exact absurd rfl h0l | cons => simp))
      exact down1_in F n hf hro hn y Bs n₀ b off cap l h2.2.1 (by omega) J Jx hY W hc'
        (fun j hj => ((hW.cell (p := ⟨b, off + j, none⟩) (show b < _ by omega)).trans (hbl.cell (p := ⟨b, off + j, none⟩) hb)).trans (hcs j hj)) h0
end Go.Proofs.YtmbcnfogjncdaaaGreat
namespace Go.Proofs.YtmbcnfogjncdaaaGreat
open Go.RowKit Go.Shelf Wh
attribute [local go_sem] Oper.semAt_some
theorem Spre.last {l : List Nat} {ini : List (Ix l)} {x : Ix l} (h : Spre l (ini ++ [x])) : ini.map Subtype.val = (List.range l.length).reverse.take (l.length - (x.1 + 1)) := by
 obtain ⟨k, hk, e⟩ := h
 have hlen : ini.length + 1 = k := by have := congrArg List.length e; simp at this; omega
 obtain ⟨k', rfl⟩ : ∃ k', k = k' + 1 := ⟨ini.length, hlen.symm⟩
 rw [show k' + 1 = l.length - (l.length - (k' + 1)) from by omega, take_down (by omega)] at e
 rw [List.map_append] at e
 obtain ⟨e1, e2⟩ := List.append_inj' e (by simp)
 have e3 : x.1 = l.length - (k' + 1) := by simpa using e2
 rw [e1, e3]
theorem mem_of_after {l : List Nat} {ini : List (Ix l)} {x : Ix l} (h : Spre l (ini ++ [x])) (j : Nat) (h1 : x.1 < j) (h2 : j < l.length) : ∃ i ∈ ini, i.1 = j := by
 have e := h.last
 have : j ∈ ini.map Subtype.val := by
  rw [e, List.mem_iff_getElem]
  have hx := x.2
  refine ⟨l.length - 1 - j, by simp; omega, ?_⟩
  simp
  omega
 simpa using List.mem_map.1 this
theorem mem_of_all {l : List Nat} {ys : List (Ix l)} (h : Sall l ys) (j : Nat) (h2 : j < l.length) : ∃ i ∈ ys, i.1 = j := by
 have : j ∈ ys.map Subtype.val := by rw [h]; simpa using h2
 simpa using List.mem_map.1 this
theorem val_high_zero {l : List Nat} (k : Nat) (h : ∀ j, k ≤ j → j < l.length → l[j]?.getD 0 = 0) : val l = val (l.take k) := by
 rw [val_take_drop l k]
 have : val (l.drop k) = 0 := val_zero_iff.2 fun x hx => by
  obtain ⟨i, hi, rfl⟩ := List.mem_iff_getElem.1 hx
  simp at hi
  have := h (k + i) (by omega) (by omega)
  rw [List.getElem_drop]
  rw [getD_lt_length (by omega)] at this
  exact this
 rw [this]; simp
theorem dig_of_top {l : List Nat} (hl : Lm l) {m : Nat} (hm : m < l.length) (h0 : l[m]?.getD 0 ≠ 0) (h : ∀ j, m < j → j < l.length → l[j]?.getD 0 = 0) : dig (val l) = l.take (m + 1) := by
 rw [val_high_zero (m + 1) (fun j h1 h2 => h j (by omega) h2), List.take_succ_eq_append_getElem hm]
 rw [getD_lt_length hm] at h0
 exact dig_snoc (hl.take m) (hl _ (List.getElem_mem hm)) h0
theorem dig_of_zero {l : List Nat} (h : ∀ j, j < l.length → l[j]?.getD 0 = 0) : dig (val l) = [] := by
 rw [val_high_zero 0 (fun j _ h2 => h j h2)]; simp [dig_zero]
def Part (v v' : Value) : Prop := v' = .slice none 0 0 ∨ ∃ a n cap k, v = .slice a n cap ∧ v' = .slice a k cap ∧ 0 < k ∧ k ≤ n
def Fr (B : Nat) (W : World) (v : Value) : Prop :=
 v = .slice none 0 0 ∨ ∃ g n cap cur T, v = .slice (some ⟨g, 0, none⟩) n cap ∧ B ≤ g ∧ W.heap[g]? = some (.cells cur T (0, 0)) ∧ cur.size = cap
theorem Fr.mono {B B' : Nat} {W : World} {v : Value} (h : Fr B W v) (hB : B' ≤ B) : Fr B' W v := by
 rcases h with h | ⟨g, n, cap, cur, T, h1, h2, h3⟩
 · exact .inl h
 · exact .inr ⟨g, n, cap, cur, T, h1, Nat.le_trans hB h2, h3⟩
theorem Fr.below {B : Nat} {W W' : World} {v : Value} (h : Fr B W v) (hb : Below W.heap.size W W') : Fr B W' v := by
 rcases h with h | ⟨g, n, cap, cur, T, h1, h2, h3, h4⟩
 · exact .inl h
 · exact .inr ⟨g, n, cap, cur, T, h1, h2, (hb.block g (Array.getElem?_eq_some_iff.1 h3).1).trans h3, h4⟩
theorem Fr.part {B : Nat} {W : World} {v v' : Value} (h : Fr B W v) (hp : Part v v') : Fr B W v' := by
  rcases hp with hp | ⟨a, n, cap, k, e1, e2, h0, h1⟩
  · exact .inl hp
  · rcases h with h | ⟨g, n', cap', cur, T, e3, h2, h3, h4⟩
    · subst h; cases e1; omega
    · subst e1; cases e3
      exact .inr ⟨g, k, cap, cur, T, e2, h2, h3, h4⟩
theorem Fr.of_owns {W : World} {base n : Nat} {e : TypeId} {v : Value} {xs : List Value} (h : W.ownsRow base e 1 v n xs) : Fr base W v := by
 rcases h.2 with ⟨h, _⟩ | ⟨g, cap, cur, hv, hg, hh, _, _, hc, _⟩
 · exact .inl h
 · exact .inr ⟨g, n, cap, cur, e, hv, hg, hh, by omega⟩
def LimF (B : Nat) (W : World) (v : Value) (l : List Nat) : Prop := Lim W v l ∧ Fr B W v
theorem LimF.below {B : Nat} {W W' : World} {v : Value} {l : List Nat} (h : LimF B W v l) (hb : Below W.heap.size W W') : LimF B W' v l := ⟨h.1.below hb (Nat.le_refl _), h.2.below hb⟩
theorem LimF.mono {B B' : Nat} {W : World} {v : Value} {l : List Nat} (h : LimF B W v l) (hB : B' ≤ B) : LimF B' W v l := ⟨h.1, h.2.mono hB⟩
theorem LimF.nil (B : Nat) (W : World) : LimF B W (.slice none 0 0) [] := ⟨Lim.nil W, .inl rfl⟩
theorem Lim.take {W : World} {a : Option Addr} {n cap : Nat} {l : List Nat} (h : Lim W (.slice a n cap) l) {k : Nat} (hk : k ≤ l.length) : Lim W (.slice a k cap) (l.take k) := by
  obtain ⟨a', cap', e, h1, h2, h⟩ := h
  cases e
  refine ⟨a, cap, by simp [Nat.min_eq_left hk], by simp; omega, ⟨h2.1, by simp; omega, h2.2.2⟩, ?_⟩
  rcases h with rfl | ⟨b, off, rfl, hc⟩
  · exact .inl (by simp)
  · refine .inr ⟨b, off, rfl, fun j hj => ?_⟩
    simp at hj
    rw [hc j (by omega), List.getElem?_take_of_lt (by omega)]
theorem trim_in (F : Fence) (n : Nat) (hf : F.fn 136) (hf2 : F.fn 135) (hf3 : F.fn 169) (hro : F.round = none) (hn : 3 ≤ n) (sv : Value) (l : List Nat) (hl : Lm l) (w : World) (h : Lim w sv l) :
    CallsIn F n Tryz.prog 136 #[sv] w fun e w' => (∃ v', e = .returned v' ∧ Lim w' v' (dig (val l)) ∧ Part sv v') ∧ Below w.heap.size w w' := by
  have h1 : 1 ≤ n := by omega
  have h' := h
  obtain ⟨a, cap, rfl, hlc, ⟨hcm, hcl, hcn⟩, hcs⟩ := h'
  clear hcn
  refine callsIn_of_wp_marks Tryz.func136 rfl hf ?_ hro
  simp only [Tryz.ntmps136, List.size_toArray, List.length_cons, List.length_nil, Nat.reduceAdd, Nat.reduceSub, Array.replicate_succ, Array.replicate_zero, List.push_toArray, List.append_toArray, List.nil_append, List.cons_append]
  gi_wp2_with (gi_at_call 135; refine (down_in F (n - 1) hf2 hro _ _ _ _ rfl _).mono ?_; rintro e w' ⟨rfl, rfl⟩)
  have bL := Boxed.new w 22 (.slice a l.length cap)
  have bR := Boxed.new (w.alloc (.cells #[.slice a l.length cap] 22)) 22 (.slice none 0 0)
  have bN := Boxed.new ((w.alloc (.cells #[.slice a l.length cap] 22)).alloc (.cells #[.slice none 0 0] 22)) 22 (.slice a l.length cap)
  rw [World.size_alloc] at bR
  rw [World.size_alloc, World.size_alloc] at bN
  have hB0 : Below w.heap.size w (((w.alloc (.cells #[.slice a l.length cap] 22)).alloc (.cells #[.slice none 0 0] 22)).alloc (.cells #[.slice a l.length cap] 22)) :=
    (((Below.refl _ w).alloc (Nat.le_refl _) _).alloc (by simp) _).alloc (by simp; omega) _
  have bL' := (bL.alloc (.cells #[.slice none 0 0] 22)).alloc (.cells #[.slice a l.length cap] 22)
  have bR' := bR.alloc (.cells #[.slice a l.length cap] 22)
  obtain ⟨W0, hW0⟩ : ∃ W0, (((w.alloc (.cells #[.slice a l.length cap] 22)).alloc (.cells #[.slice none 0 0] 22)).alloc (.cells #[.slice a l.length cap] 22)) = W0 := ⟨_, rfl⟩
  have hsz : W0.heap.size = w.heap.size + 3 := by rw [← hW0]; simp
  rw [hW0] at bL' bR' bN hB0 ⊢
  clear hW0 bL bR
  refine wpIn_rangeFunc_ownG hro h1 (gf := 169) (lb := #[.pointer (some ⟨w.heap.size + 1 + 1, 0, none⟩)]) rfl hf3 (enters_of Tryz.func169 (by kernel_rfl) rfl)
    (down_stops F (n - 1) hf3 hro (by omega) (w.heap.size + 1 + 1) W0.heap.size _ l W0 (by omega) (Nat.le_refl _) bN.cell w h (by omega) hB0) KpD.trans (KpD.putObj (Nat.le_refl _)) (Below.refl _ _) (fun _ => rfl)
    (fun pre W => ((∀ i ∈ pre, l[i.1]?.getD 0 = 0) ∧ Boxed W w.heap.size 22 (.slice a l.length cap) ∧ Boxed W (w.heap.size + 1) 22 (.slice none 0 0)) ∧ Below w.heap.size w W)
    (fun c pre W => (c = .ret ∧ ∃ ini last, pre = ini ++ [last] ∧ (∀ i ∈ ini, l[i.1]?.getD 0 = 0) ∧ l[last.1]?.getD 0 ≠ 0 ∧ Boxed W (w.heap.size + 1) 22 (.slice a (last.1 + 1) cap)) ∧ Below w.heap.size w W)
    (OwnFrom.and (Own.from (fun s A B row hs hg hr => ⟨hs.1, hs.2.1.kept hg (fun e => by obtain ⟨o, ho, hc⟩ := hr _ e.symm; rw [hs.2.1] at ho; cases ho; cases hc), hs.2.2.kept hg (fun e => by obtain ⟨o, ho, hc⟩ := hr _ e.symm; rw [hs.2.2] at ho; cases ho; cases hc)⟩) _) (ownFrom_below (Nat.le_refl _) (by omega)))
    (fun c => OwnFrom.and (Own.from (fun s A B row hs hg hr => by obtain ⟨hc, ini, last, e1, e2, e3, e4⟩ := hs; exact ⟨hc, ini, last, e1, e2, e3, e4.kept hg (fun e => by obtain ⟨o, ho, hc⟩ := hr _ e.symm; rw [e4] at ho; cases ho; cases hc)⟩) _) (ownFrom_below (Nat.le_refl _) (by omega)))
    ⟨⟨by simp, bL', bR'⟩, hB0⟩
    (fun x => { tmps := #[.slice a l.length cap, .pointer (some ⟨w.heap.size, 0, none⟩), .pointer (some ⟨w.heap.size + 1, 0, none⟩), .int .i64 ((x.1 : Nat) : Int), .int .u16 ((l[x.1]?.getD 0 : Nat) : Int), .slice a l.length cap, .func (.func 169) #[] #[.pointer (some ⟨w.heap.size + 1 + 1, 0, none⟩)], .int .i64 ((x.1 : Nat) : Int), .int .u16 ((l[x.1]?.getD 0 : Nat) : Int), undef, undef, undef, undef, undef, undef], defers := [] }) ?assign ?body ?done ?stop
  case assign =>
    intro y x W K hK
    dsimp only [encs]
    gi_wp2
    exact hK
  case body =>
    rintro y pre x W ⟨⟨hz, hbL, hbR⟩, hB⟩ _
    have cL := hbL.cell
    have cR := hbR.cell
    have fR := hbR.frozen
    have hx := x.2
    obtain ⟨u, hu⟩ : ∃ u : Nat, u = l[x.1]?.getD 0 := ⟨_, rfl⟩
    rw [← hu]
    have H := Lib.hid hu
    clear hu
    obtain ⟨m, hm⟩ : ∃ m : Nat, m = x.1 := ⟨_, rfl⟩
    have Hm := Lib.hid hm
    rw [← hm] at hx ⊢
    clear hm
    by_cases hu0 : u = 0
    · have e0 : ((u : Int) != 0) = false := by simp [hu0]
      have H0 := Lib.hid hu0
      clear hu0
      gi_wp2
      exact ⟨KeepsFrom.refl _ _, KpD.refl _ _ _, ⟨fun p hp => (List.mem_append.1 hp).elim (hz p) (fun e => by simp at e; subst e; rw [← H.out, H0.out]), hbL, hbR⟩, hB⟩
    · have e0 : ((u : Int) != 0) = true := by simp; omega
      gi_wp2
      exact ⟨(KeepsOthers.setCell _ _ _).from _, ⟨rfl, pre, x, rfl, hz, by rw [← H.out]; exact hu0, by rw [← Hm.out]; exact hbR.set _⟩, hB.setCell (p := ⟨w.heap.size + 1, 0, none⟩) (by simp) _⟩
  case done =>
    rintro D ys W hD hS ⟨⟨hz, hbL, hbR⟩, hB⟩ hK
    have cR := hbR.cell
    have fR := hbR.frozen
    gi_wp2
    have hK' := (KeepsOthers.setCell W ⟨w.heap.size + 1, 0, none⟩ (.slice none 0 0)).same D _ hK rfl
    have hB' := hB.setCell (p := ⟨w.heap.size + 1, 0, none⟩) (by simp) (.slice none 0 0)
    refine ⟨by simp, .inl ⟨_, _, rfl, run_takeDeferred hK', ?_⟩⟩
    have hc5 := cell_kept (hbR.set (.slice none 0 0)).cell (grownBy_putObj' _ D (.deferred none)) (fun r e => by cases e; exact ⟨_, hK', rfl⟩)
    refine ⟨.slice none 0 0, ?_, ⟨_, rfl, ?_, .inl rfl⟩, hB'.trans (belowK_b (w := w) (Nat.le_refl _) _ D _ _ (by omega) hK' rfl rfl)⟩
    · simp [results, Tryz.f136, go_sem, hc5]
    · rw [dig_of_zero (fun j hj => by obtain ⟨i, hi, rfl⟩ := mem_of_all hS j hj; exact hz i hi)]
      exact Lim.nil _
  case stop =>
    rintro D c pre W hD hS ⟨⟨rfl, ini, last, rfl, e2, e3, hbR⟩, hB⟩ hK
    gi_wp2
    refine ⟨by simp, .inl ⟨_, _, rfl, run_takeDeferred hK, ?_⟩⟩
    have hc5 := cell_kept hbR.cell (grownBy_putObj' _ D (.deferred none)) (fun r e => by cases e; exact ⟨_, hK, rfl⟩)
    have hx := last.2
    have hB2 := hB.trans (belowK_b (w := w) (Nat.le_refl _) W D _ (.deferred none) (by omega) hK rfl rfl)
    refine ⟨.slice a (last.1 + 1) cap, ?_, ⟨_, rfl, ?_, .inr ⟨_, _, _, _, rfl, rfl, by omega, by omega⟩⟩, hB2⟩
    · simp [results, Tryz.f136, go_sem, hc5]
    · rw [dig_of_top hl hx e3 (fun j h1 h2 => by obtain ⟨i, hi, rfl⟩ := mem_of_after hS j h1 h2; exact e2 i hi)]
      exact (h.below hB2 (Nat.le_refl _)).take (by omega)
theorem trim_any (sv : Value) (l : List Nat) (hl : Lm l) (w : World) (h : Lim w sv l) :
  Calls Tryz.prog 136 #[sv] w fun e w' => (∃ v', e = .returned v' ∧ Lim w' v' (dig (val l)) ∧ Part sv v') ∧ Below w.heap.size w w' :=
 callsIn_wide.1 (trim_in Fence.wide 3 trivial trivial trivial rfl (Nat.le_refl _) sv l hl w h)
end Go.Proofs.YtmbcnfogjncdaaaGreat
namespace Wh
open Go Go.RowKit
theorem wrap_u64_nat (n : Nat) : IntKind.u64.wrap (n : Int) = ((n % 18446744073709551616 : Nat) : Int) := by
 rw [IntKind.wrap_u64]; omega
theorem wrap_u16_nat (n : Nat) : IntKind.u16.wrap (n : Int) = ((n % 65536 : Nat) : Int) := by
 rw [IntKind.wrap_u16]; omega
theorem shl_or (q u : Nat) (hu : u < 65536) : bits .or .u64 (IntKind.u64.wrap ((q : Int) * 65536)) (u : Int) = (((q * 65536 + u) % 18446744073709551616 : Nat) : Int) := by
 rw [show (q : Int) * 65536 = ((q * 65536 : Nat) : Int) from by omega, wrap_u64_nat, bits_or_u64_nat _ _ (by omega) (by omega)]
 congr 1
 have e : q * 65536 % 18446744073709551616 = 2 ^ 16 * (q % 281474976710656) := by omega
 rw [e, ← Nat.two_pow_add_eq_or_of_lt (i := 16) (by omega)]
 omega
end Wh
