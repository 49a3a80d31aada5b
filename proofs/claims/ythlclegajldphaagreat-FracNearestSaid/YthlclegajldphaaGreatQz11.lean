/- A part of the proofs about fractions. -/
import Derived.Below
import Derived.BigQuiet
import Derived.ChangeSame
import Derived.ChangeSlices
import Derived.Deep.QuietTactic
import Derived.Deep.RegionHeld3
import Derived.Laws.IdiomStrings
import Derived.Lib.SmallJoins
import Derived.OpenShut
import Derived.Outline
import Derived.ProofKit
import Derived.SizedLaws
import Derived.Test.YthlclegajldphaaGreatRows
import Derived.WalkKit
import Derived.Test.YthlclegajldphaaGreatQz1
import Derived.Test.YthlclegajldphaaGreatQz10
namespace Wt
def val : List Nat → Nat
  | [] => 0
  | x :: l => x + 10 * val l
def dig (n : Nat) : List Nat := if h : n = 0 then [] else (n % 10) :: dig (n / 10)
termination_by n
decreasing_by omega
def Lm (l : List Nat) : Prop := ∀ x ∈ l, x < 10
@[simp] theorem val_nil : val [] = 0 := rfl
theorem val_cons (x : Nat) (l : List Nat) : val (x :: l) = x + 10 * val l := rfl
theorem dig_zero : dig 0 = [] := by rw [dig]; simp
theorem dig_pos {n : Nat} (h : n ≠ 0) : dig n = (n % 10) :: dig (n / 10) := by rw [dig]; simp [h]
theorem Lm.nil : Lm [] := fun x h => by simp at h
theorem Lm.cons {x : Nat} {l : List Nat} (h : x < 10) (hl : Lm l) : Lm (x :: l) := fun y hy => by
  rcases List.mem_cons.1 hy with rfl | hy
  · exact h
  · exact hl y hy
theorem Lm.head {x : Nat} {l : List Nat} (h : Lm (x :: l)) : x < 10 := h x (by simp)
theorem Lm.tail {x : Nat} {l : List Nat} (h : Lm (x :: l)) : Lm l := fun y hy => h y (by simp [hy])
theorem Lm.append {a b : List Nat} (ha : Lm a) (hb : Lm b) : Lm (a ++ b) := fun y hy => by
  rcases List.mem_append.1 hy with hy | hy
  · exact ha y hy
  · exact hb y hy
theorem Lm.take {l : List Nat} (h : Lm l) (k : Nat) : Lm (l.take k) := fun y hy => h y (List.mem_of_mem_take hy)
theorem Lm.drop {l : List Nat} (h : Lm l) (k : Nat) : Lm (l.drop k) := fun y hy => h y (List.mem_of_mem_drop hy)
theorem Lm.getD {l : List Nat} (h : Lm l) (i : Nat) : l[i]?.getD 0 < 10 := by
  cases hi : l[i]? with
  | none => simp
  | some v => simpa using h v (List.mem_of_getElem? hi)
theorem Lm.set {l : List Nat} (h : Lm l) (i : Nat) {x : Nat} (hx : x < 10) : Lm (l.set i x) := fun y hy => by
  rcases List.mem_or_eq_of_mem_set hy with hy | rfl
  · exact h y hy
  · exact hx
theorem val_append (a b : List Nat) : val (a ++ b) = val a + 10 ^ a.length * val b := by
  induction a with
  | nil => simp
  | cons x a ih =>
    simp only [List.cons_append, val_cons, ih, List.length_cons, Nat.pow_succ, Nat.mul_add]
    have : 10 * (10 ^ a.length * val b) = 10 ^ a.length * 10 * val b := by
      rw [← Nat.mul_assoc, Nat.mul_comm 10]
    omega
theorem val_lt {l : List Nat} (h : Lm l) : val l < 10 ^ l.length := by
  induction l with
  | nil => simp
  | cons x l ih =>
    have := ih h.tail
    have := h.head
    simp only [val_cons, List.length_cons, Nat.pow_succ]
    omega
theorem val_dig (n : Nat) : val (dig n) = n := by
  induction n using Nat.strongRecOn with
  | ind n ih =>
    by_cases h : n = 0
    · subst h; rw [dig_zero]; rfl
    · rw [dig_pos h, val_cons, ih _ (by omega)]; omega
theorem dig_Lm (n : Nat) : Lm (dig n) := by
  induction n using Nat.strongRecOn with
  | ind n ih =>
    by_cases h : n = 0
    · subst h; rw [dig_zero]; exact .nil
    · rw [dig_pos h]; exact .cons (by omega) (ih _ (by omega))
theorem dig_nil_iff (n : Nat) : dig n = [] ↔ n = 0 := by
  constructor
  · intro h; have := val_dig n; rw [h] at this; simpa using this.symm
  · rintro rfl; exact dig_zero
theorem dig_last (n : Nat) (h : dig n ≠ []) : (dig n).getLast h ≠ 0 := by
  induction n using Nat.strongRecOn with
  | ind n ih =>
    have h0 : n ≠ 0 := fun e => h (by rw [e, dig_zero])
    by_cases h1 : n / 10 = 0
    · have e : dig n = [n % 10] := by rw [dig_pos h0, h1, dig_zero]
      simp only [e, List.getLast_singleton]; omega
    · have hne : dig (n / 10) ≠ [] := fun e => h1 ((dig_nil_iff _).1 e)
      have := ih (n / 10) (by omega) hne
      simp only [dig_pos h0, List.getLast_cons hne]
      exact this
theorem dig_val {l : List Nat} (h : Lm l) (hl : ∀ hne : l ≠ [], l.getLast hne ≠ 0) : dig (val l) = l := by
  induction l with
  | nil => simp [dig_zero]
  | cons x l ih =>
    have hx := h.head
    have hv : val (x :: l) ≠ 0 := by
      rw [val_cons]
      cases l with
      | nil => have := hl (by simp); simp at this; simp; omega
      | cons y t =>
        have h2 : dig (val (y :: t)) = y :: t := ih h.tail (fun hne => by have := hl (by simp); rwa [List.getLast_cons hne] at this)
        have h3 : val (y :: t) ≠ 0 := fun e => by rw [e, dig_zero] at h2; cases h2
        omega
    rw [dig_pos hv, val_cons]
    have e1 : (x + 10 * val l) % 10 = x := by omega
    have e2 : (x + 10 * val l) / 10 = val l := by omega
    rw [e1, e2, ih h.tail]
    intro hne
    have := hl (by simp)
    rwa [List.getLast_cons hne] at this
theorem val_replicate_zero (n : Nat) : val (List.replicate n 0) = 0 := by
  induction n with
  | zero => rfl
  | succ n ih => rw [List.replicate_succ, val_cons, ih]
theorem dig_snoc {l : List Nat} {x : Nat} (h : Lm l) (hx : x < 10) (h0 : x ≠ 0) : dig (val (l ++ [x])) = l ++ [x] :=
  dig_val (h.append (.cons hx .nil)) (fun hne => by simpa using h0)
theorem length_dig_le (n k : Nat) : (dig n).length ≤ k ↔ n < 10 ^ k := by
  induction k generalizing n with
  | zero =>
    simp only [Nat.le_zero, List.length_eq_zero_iff, dig_nil_iff]; omega
  | succ k ih =>
    by_cases h : n = 0
    · subst h; rw [dig_zero]; simp; exact Nat.pos_of_ne_zero (by simp)
    · rw [dig_pos h, List.length_cons, Nat.succ_le_succ_iff, ih, Nat.pow_succ]
      constructor
      · intro h; omega
      · intro h; exact Nat.div_lt_of_lt_mul (by rw [Nat.mul_comm]; exact h)
theorem lt_pow_length (n : Nat) : n < 10 ^ (dig n).length := (length_dig_le n _).1 (Nat.le_refl _)
theorem pow_le_of_length {n k : Nat} (h : k < (dig n).length) : 10 ^ k ≤ n := by
  by_cases hn : n < 10 ^ k
  · have := (length_dig_le n k).2 hn; omega
  · omega
theorem length_dig_mono {m n : Nat} (h : m ≤ n) : (dig m).length ≤ (dig n).length := by
  rw [length_dig_le]; have := lt_pow_length n; omega
theorem val_take_drop (l : List Nat) (i : Nat) : val l = val (l.take i) + 10 ^ (min i l.length) * val (l.drop i) := by
  rw [← List.length_take, ← val_append, List.take_append_drop]
theorem getD_lt_length {l : List Nat} {i : Nat} (h : i < l.length) : l[i]?.getD 0 = l[i] := by simp [h]
theorem val_take_succ {l : List Nat} {k : Nat} (h : k < l.length) : val (l.take (k + 1)) = val (l.take k) + 10 ^ k * (l[k]?.getD 0) := by
  rw [List.take_succ_eq_append_getElem h, val_append, List.length_take, Nat.min_eq_left (by omega), getD_lt_length h]
  simp [val_cons]
theorem val_drop_succ {l : List Nat} {k : Nat} (h : k < l.length) : val (l.drop k) = l[k]?.getD 0 + 10 * val (l.drop (k + 1)) := by
  rw [List.drop_eq_getElem_cons h, val_cons, getD_lt_length h]
theorem val_inj {a b : List Nat} (ha : Lm a) (hb : Lm b) (hl : a.length = b.length) (hv : val a = val b) : a = b := by
  induction a generalizing b with
  | nil => cases b with
    | nil => rfl
    | cons => simp at hl
  | cons x a ih => cases b with
    | nil => simp at hl
    | cons y b =>
      have h1 := ha.head; have h2 := hb.head
      simp only [val_cons] at hv
      have e : x = y := by omega
      subst e
      rw [ih ha.tail hb.tail (by simpa using hl) (by omega)]
theorem val_zero_iff {l : List Nat} : val l = 0 ↔ ∀ x ∈ l, x = 0 := by
  induction l with
  | nil => simp
  | cons x l ih =>
    simp only [val_cons, List.mem_cons, forall_eq_or_imp, ← ih]
    omega
theorem val_set {l : List Nat} {i x : Nat} (h : i < l.length) (h0 : l[i]?.getD 0 = 0) : val (l.set i x) = val l + 10 ^ i * x := by
  induction l generalizing i with
  | nil => simp at h
  | cons y l ih =>
    cases i with
    | zero => simp at h0; subst h0; simp [val_cons]; omega
    | succ i =>
      simp only [List.set_cons_succ, val_cons, ih (by simpa using h) (by simpa using h0), Nat.pow_succ]
      have : 10 * (10 ^ i * x) = 10 ^ i * 10 * x := by rw [← Nat.mul_assoc, Nat.mul_comm 10]
      omega
theorem val_high_zero {l : List Nat} (k : Nat) (h : ∀ j, k ≤ j → j < l.length → l[j]?.getD 0 = 0) : val l = val (l.take k) := by
  rw [val_take_drop l k]
  have : val (l.drop k) = 0 := val_zero_iff.2 fun x hx => by
    obtain ⟨i, hi, rfl⟩ := List.mem_iff_getElem.1 hx
    simp at hi
    have := h (k + i) (by omega) (by omega)
    rw [List.getElem_drop]
    rw [getD_lt_length (by omega)] at this
    exact this
  rw [this]; simp
theorem dig_of_top {l : List Nat} (hl : Lm l) {m : Nat} (hm : m < l.length) (h0 : l[m]?.getD 0 ≠ 0) (h : ∀ j, m < j → j < l.length → l[j]?.getD 0 = 0) : dig (val l) = l.take (m + 1) := by
  rw [val_high_zero (m + 1) (fun j h1 h2 => h j (by omega) h2), List.take_succ_eq_append_getElem hm]
  rw [getD_lt_length hm] at h0
  exact dig_snoc (hl.take m) (hl _ (List.getElem_mem hm)) h0
theorem dig_of_zero {l : List Nat} (h : ∀ j, j < l.length → l[j]?.getD 0 = 0) : dig (val l) = [] := by
  rw [val_high_zero 0 (fun j _ h2 => h j h2)]; simp [dig_zero]
end Wt
namespace Go.Proofs.YthlclegajldphaaGreat
open Go.RowKit Wh
def bytesOf (ds : List Nat) : List Value := ds.map fun (d : Nat) => Value.int .u8 ((48 + d : Nat) : Int)
def Sep (a : Option Addr) (l : List Nat) (v : Value) : Prop := l = [] ∨ ∃ b, a = some ⟨b, 0, none⟩ ∧ v.ownBlock ≠ some b
theorem Lim.grown {W W' : World} {a : Option Addr} {n cap : Nat} {l : List Nat} {row : Option Nat} (h : Lim W (.slice a n cap) l) (hg : W.grownBy W' row) (hs : l = [] ∨ ∃ b, a = some ⟨b, 0, none⟩ ∧ row ≠ some b) : Lim W' (.slice a n cap) l := by
  obtain ⟨a', cap', e, h1, h2, h3⟩ := h
  cases e
  refine ⟨a, cap, rfl, h1, h2, ?_⟩
  rcases hs with rfl | ⟨b, rfl, hne⟩
  · exact .inl rfl
  · rcases h3 with rfl | ⟨b', off, e, hc⟩
    · exact .inl rfl
    · cases e
      by_cases hl : l = []
      · exact .inl hl
      · have hb : b < W.heap.size := lt_of_cell (hc 0 (List.length_pos_iff.2 hl))
        exact .inr ⟨b, 0, rfl, fun j hj => (World.cell?_of_block (hg.block b hb (fun e => hne e.symm)) (a := ⟨b, 0 + j, none⟩)).trans (hc j hj)⟩
theorem Sep.next {W' : World} {base : Nat} {a : Option Addr} {n cap : Nat} {l : List Nat} {v v' : Value} {k : Nat} {ds : List Nat} (hs : Sep a l v) (h : Lim W' (.slice a n cap) l) (ho : W'.ownsRow base 5 1 v' k (bytesOf ds)) (hd : ds ≠ []) : Sep a l v' := by
  rcases hs with hs | ⟨b, rfl, hne⟩
  · exact .inl hs
  · by_cases hl : l = []
    · exact .inl hl
    · refine .inr ⟨b, rfl, fun e => ?_⟩
      obtain ⟨b', off, e', -, hc⟩ := h.block hl
      cases e'
      have c1 := hc 0 (List.length_pos_iff.2 hl)
      obtain ⟨x, r, rfl⟩ : ∃ x r, ds = x :: r := by
        cases ds with
        | nil => exact absurd rfl hd
        | cons x r => exact ⟨x, r, rfl⟩
      have c2 := ho.cells e 0 (.int .u8 ((48 + x : Nat) : Int)) (by simp [bytesOf])
      rw [add_eq] at c2
      rw [c1] at c2
      simp at c2
end Go.Proofs.YthlclegajldphaaGreat
namespace Go.Proofs.YthlclegajldphaaGreat
open Go.RowKit Wh
def isDig (c : UInt8) : Bool := decide (48 ≤ c.toNat) && decide (c.toNat ≤ 57)
def AreRel (s : ByteArray) (v6 : Value) : Prop := ∃ k : Nat, k ≤ s.size ∧ v6 = .int .i64 (k : Int) ∧ ∀ j (h : j < s.size), j < k → isDig s[j] = true
theorem all_of (s : ByteArray) (h : ∀ j (h : j < s.size), isDig s[j] = true) : s.data.toList.all isDig = true := by
  rw [List.all_eq_true]
  intro c hc
  obtain ⟨j, hj, rfl⟩ := List.mem_iff_getElem.1 hc
  exact h j (by simpa using hj)
theorem not_all_of (s : ByteArray) (j : Nat) (h : j < s.size) (hd : isDig s[j] = false) : s.data.toList.all isDig = false := by
  rw [List.all_eq_false]
  exact ⟨s[j], List.getElem_mem (l := s.data.toList) (by simpa using h), by simp [hd]⟩
set_option maxRecDepth 100000 in
set_option maxHeartbeats 1000000 in
theorem areDigits_any (s : ByteArray) (hs : s.size ≤ maxLen) (w : World) :
    Calls Tryz.prog 126 #[.string s] w fun e w' => e = .returned (.bool (s.data.toList.all isDig && decide (0 < s.size))) ∧ w = w' := by
  unfold maxLen at hs
  obtain ⟨r, hr⟩ : ∃ r, r = (s.data.toList.all isDig && decide (0 < s.size)) := ⟨_, rfl⟩
  rw [← hr]
  have HR := Lib.hid hr
  clear hr
  go_enter Tryz.func126, Tryz.ntmps126
  go_wp2
  go_loop [6] (fun v6 => AreRel s v6) (fun v6 => s.size - (intOf v6).toNat)
  case atStart => exact ⟨0, Nat.zero_le _, rfl, fun j _ h => absurd h (Nat.not_lt_zero _)⟩
  case round =>
    obtain ⟨k, hk, rfl, hz⟩ := hrel
    have HZ := Lib.hid hz
    clear hz
    rcases Nat.lt_or_ge k s.size with hlt | hge
    · rcases Nat.lt_or_ge s[k].toNat 48 with h1 | h1
      · have HX := Lib.hid (not_all_of s k hlt (by simp [isDig]; omega))
        have h1' : (s[k].toNat : Int) < 48 := by omega
        go_wp2
        go_ret
        exact ⟨by rw [HR.out, HX.out]; rfl, rfl⟩
      · rcases Nat.lt_or_ge 57 s[k].toNat with h2 | h2
        · have HX := Lib.hid (not_all_of s k hlt (by simp [isDig]; omega))
          have h1' : ¬ (s[k].toNat : Int) < 48 := by omega
          have h2' : (57 : Int) < (s[k].toNat : Int) := by omega
          go_wp2
          go_ret
          exact ⟨by rw [HR.out, HX.out]; rfl, rfl⟩
        · have HX := Lib.hid (show isDig s[k] = true by simp [isDig]; omega)
          have h1' : ¬ (s[k].toNat : Int) < 48 := by omega
          have h2' : ¬ (57 : Int) < (s[k].toNat : Int) := by omega
          go_wp2
          case roundEnd =>
            refine ⟨⟨k + 1, by omega, by go_num, fun j h hj => ?_⟩, by simp [intOf]; omega⟩
            by_cases e : j = k
            · subst e; exact HX.out
            · exact HZ.out j h (by omega)
    · have HX := Lib.hid (all_of s fun j h => HZ.out j h (by omega))
      go_wp2
      go_ret
      exact ⟨by rw [HR.out, HX.out]; rfl, rfl⟩
end Go.Proofs.YthlclegajldphaaGreat
namespace Go.Proofs.YthlclegajldphaaGreat
open Go.RowKit Wh
def SameRel (l l' : List Nat) (w wr : World) (X2 X3 : Nat) (x2 y2 x3 y3 : Value) (v5 : Value) : Prop :=
  ∃ k : Nat, k ≤ l.length ∧ v5 = .int .i64 (k : Int) ∧ (∀ j, j < k → l[j]?.getD 0 = l'[j]?.getD 0) ∧ Below w.heap.size w wr ∧ Bx wr X2 x2 y2 ∧ Bx wr X3 x3 y3
theorem belowN {B : Nat} {a w : World} (h : Below B a w) (n : Nat) : Below B a (w.drewN n) := h.trans ⟨rfl, rfl, rfl, Nat.le_refl _, fun _ _ => rfl⟩
theorem Bx.drewN {W : World} {B : Nat} {x y : Value} (h : Bx W B x y) (n : Nat) : Bx (W.drewN n) B x y := h
theorem eq_of_all {l l' : List Nat} (h : l.length = l'.length) (hz : ∀ j, j < l.length → l[j]?.getD 0 = l'[j]?.getD 0) : l = l' := by
  refine List.ext_getElem h fun j h1 h2 => ?_
  have := hz j h1
  rwa [getD_lt_length h1, getD_lt_length h2] at this
theorem cell_of_lim {W : World} {b off n cap : Nat} {l : List Nat} (h : Lim W (.slice (some ⟨b, off, none⟩) n cap) l) (j : Nat) (hj : j < l.length) : W.cell? ⟨b, off + j, none⟩ = some (.int .u16 ((l[j]?.getD 0 : Nat) : Int)) := by
  obtain ⟨b', off', e, -, hc⟩ := h.block (fun e => by rw [e] at hj; simp at hj)
  cases e
  exact hc j hj
theorem lim_addr {W : World} {a : Option Addr} {n cap : Nat} {l : List Nat} (h : Lim W (.slice a n cap) l) (hl : 0 < l.length) : ∃ b off, a = some ⟨b, off, none⟩ := by
  obtain ⟨b', off', e, -, -⟩ := h.block (fun e => by rw [e] at hl; simp at hl)
  exact ⟨b', off', e⟩
set_option maxRecDepth 100000 in
set_option maxHeartbeats 2000000 in
theorem refSame_any (b : Bool) (s : Value) (l : List Nat) (b' : Bool) (s' : Value) (l' : List Nat) (w : World) (h : Lim w s l) (g : Lim w s' l') :
    Calls Tryz.prog 63 #[.agg #[.bool b, s], .agg #[.bool b', s']] w fun e w' => e = .returned (.bool (decide (b = b' ∧ l = l'))) ∧ Below w.heap.size w w' := by
  obtain ⟨aa, ca, rfl, hlc, ⟨hcm, hcl, -⟩, -⟩ := id h
  obtain ⟨ab, cb, rfl, glc, ⟨gcm, gcl, -⟩, -⟩ := id g
  have hz := ((Below.refl w.heap.size w).alloc (Nat.le_refl _) (.cells #[.bool b, .slice aa l.length ca] 24)).alloc (by simp) (.cells #[.bool b', .slice ab l'.length cb] 24)
  have x2 := (Bx.new w (.bool b) (.slice aa l.length ca)).alloc (.cells #[.bool b', .slice ab l'.length cb] 24)
  have x3 := Bx.new (w.alloc (.cells #[.bool b, .slice aa l.length ca] 24)) (.bool b') (.slice ab l'.length cb)
  simp only [World.size_alloc] at x3
  obtain ⟨r, hr⟩ : ∃ r, r = decide (b = b' ∧ l = l') := ⟨_, rfl⟩
  rw [← hr]
  have HR := Lib.hid hr
  clear hr
  by_cases hb : b = b'
  · subst hb
    by_cases hl : l.length = l'.length
    · have hl0 : ((l.length : Int) != (l'.length : Int)) = false := by simp [hl]
      have HL := Lib.hid hl
      clear hl
      go_enter Tryz.func63, Tryz.ntmps63
      go_wp2
      go_loopw [5] (fun v5 wr => SameRel l l' w wr w.heap.size (w.heap.size + 1) (.bool b) (.slice aa l.length ca) (.bool b) (.slice ab l'.length cb) v5) (fun v5 _ => l.length - (intOf v5).toNat)
      case atStart => exact ⟨0, Nat.zero_le _, rfl, fun j h => absurd h (Nat.not_lt_zero _), hz, x2, x3⟩
      case round =>
        obtain ⟨k, hk, rfl, hz1, hB, y2, y3⟩ := hrel
        obtain ⟨p2, p2'⟩ := y2.cells
        obtain ⟨p3, p3'⟩ := y3.cells
        have HZ := Lib.hid hz1
        clear hz1
        rcases Nat.lt_or_ge k l.length with hlt | hge
        · have hlt' : k < l'.length := by rw [← HL.out]; exact hlt
          obtain ⟨b1, o1, rfl⟩ := lim_addr h (by omega)
          obtain ⟨b2, o2, rfl⟩ := lim_addr g (by omega)
          have c1 := cell_of_lim (h.below hB (Nat.le_refl _)) k hlt
          have c2 := cell_of_lim (g.below hB (Nat.le_refl _)) k hlt'
          have i1 : (k : Int) < (l.length : Int) := by omega
          have i2 : (k : Int) < (l'.length : Int) := by omega
          have i0 : (0 : Int) ≤ (k : Int) := by omega
          obtain ⟨x, hx⟩ : ∃ x, x = l[k]?.getD 0 := ⟨_, rfl⟩
          obtain ⟨y, hy⟩ : ∃ y, y = l'[k]?.getD 0 := ⟨_, rfl⟩
          rw [← hx] at c1
          rw [← hy] at c2
          have HX := Lib.hid hx
          have HY := Lib.hid hy
          clear hx hy
          by_cases hxy : x = y
          · have hxy0 : ((x : Int) != (y : Int)) = false := by simp [hxy]
            have HXY := Lib.hid hxy
            clear hxy
            go_wp2
            go_quiet (fail)
            go_wp2
            case roundEnd =>
              refine ⟨⟨k + 1, by omega, by go_num, fun j hj => ?_, belowN hB _, y2.drewN _, y3.drewN _⟩, by simp [intOf]; omega⟩
              by_cases e : j = k
              · subst e; rw [← HX.out, ← HY.out]; exact HXY.out
              · exact HZ.out j (by omega)
          · have hxy0 : ((x : Int) != (y : Int)) = true := by simp; omega
            have HXY := Lib.hid hxy
            clear hxy
            go_wp2
            go_quiet (fail)
            go_wp2
            have hr0 : r = false := by
              rw [HR.out]
              exact decide_eq_false fun e => HXY.out (by rw [HX.out, HY.out, e.2])
            go_ret
            exact ⟨by rw [hr0]; rfl, belowN hB _⟩
        · have hge' : ¬ (k : Int) < (l.length : Int) := by omega
          go_wp2
          have hr0 : r = true := by
            rw [HR.out]
            have E := eq_of_all HL.out fun j hj => HZ.out j (by omega)
            exact decide_eq_true (by first | exact ⟨rfl, E⟩ | exact ⟨trivial, E⟩ | exact E)
          go_ret
          exact ⟨by rw [hr0]; rfl, hB⟩
    · have hl0 : ((l.length : Int) != (l'.length : Int)) = true := by simp; omega
      have hr0 : Hid (r = false) := Lib.hid (by rw [HR.out]; exact decide_eq_false fun e => hl (by rw [e.2]))
      clear hl
      go_enter Tryz.func63, Tryz.ntmps63
      go_wp2
      go_ret
      exact ⟨by rw [hr0.out]; rfl, hz⟩
  · have hb0 : b' = !b := by cases b <;> cases b' <;> simp at hb ⊢
    have hr0 : Hid (r = false) := Lib.hid (by rw [HR.out]; exact decide_eq_false fun e => hb e.1)
    subst hb0
    clear hb
    go_enter Tryz.func63, Tryz.ntmps63
    go_wp2
    go_ret
    exact ⟨by rw [hr0.out]; rfl, hz⟩
set_option maxRecDepth 100000 in
set_option maxHeartbeats 1000000 in
theorem refMake_any (b : Bool) (s : Value) (l : List Nat) (w : World) (h : Lim w s l) :
    Calls Tryz.prog 114 #[.bool b, s] w fun e w' => e = .returned (.agg #[.bool (b && decide (l ≠ [])), s]) ∧ Below w.heap.size w w' := by
  obtain ⟨a, cap, rfl, hlc, ⟨hcm, hcl, hcn⟩, hcs⟩ := id h
  clear hcn hcs
  cases b with
  | false =>
    go_enter Tryz.func114, Tryz.ntmps114
    go_wp2
    exact bodyPost_ret (v := .agg #[.bool false, .slice a l.length cap]) (by simp [results, Tryz.results114, go_sem]) rfl ⟨by simp, (Below.refl _ _).alloc (Nat.le_refl _) _⟩
  | true =>
    by_cases hl : l = []
    · subst hl
      go_enter Tryz.func114, Tryz.ntmps114
      go_wp2
      exact bodyPost_ret (v := .agg #[.bool false, .slice a 0 cap]) (by simp [results, Tryz.results114, go_sem]) rfl ⟨by simp, (Below.refl _ _).alloc (Nat.le_refl _) _⟩
    · have h0 : (0 : Int) < (l.length : Int) := by have := List.length_pos_iff.2 hl; omega
      go_enter Tryz.func114, Tryz.ntmps114
      go_wp2
      have hpos : 0 < l.length := List.length_pos_iff.2 hl
      exact bodyPost_ret (v := .agg #[.bool true, .slice a l.length cap]) (by simp [results, Tryz.results114, go_sem, hpos]) rfl ⟨by simp [hl], (Below.refl _ _).alloc (Nat.le_refl _) _⟩
end Go.Proofs.YthlclegajldphaaGreat
namespace Go.Proofs.YthlclegajldphaaGreat
open Go.RowKit Wh
def FIRel (n : Nat) (w wr : World) (v3 v4 : Value) : Prop := ∃ (m : Nat) (ds : List Nat), v3 = .int .u64 (m : Int) ∧ m < 18446744073709551616 ∧ dig n = ds ++ dig m ∧ wr.ownsRow (w.heap.size + 1) 62 1 v4 ds.length (cellsOf ds) ∧ Below w.heap.size w wr ∧ Bx wr w.heap.size (.bool false) (.slice none 0 0)
theorem cellsOf_snoc (ds : List Nat) (x : Nat) : cellsOf ds ++ [.int .u16 (x : Int)] = cellsOf (ds ++ [x]) := by simp [cellsOf]
set_option maxRecDepth 100000 in
set_option maxHeartbeats 2000000 in
theorem refFromInt_any (n : Int) (h1 : -9223372036854775808 ≤ n) (h2 : n ≤ 9223372036854775807) (w : World) :
    Calls Tryz.prog 54 #[.int .i64 n] w fun e w' => (∃ v, e = .returned v ∧ NumF w.heap.size w' v n) ∧ Below w.heap.size w w' := by
  obtain ⟨i0, hi, hz0, hz1, hz2⟩ := info_parts Tryz.infoU
  have hd4 : (dig n.natAbs).length ≤ 4 := (length_dig_le _ 4).2 (by show n.natAbs < 18446744073709551616; omega)
  have hw2 := fun W s (hl : Lim W s (dig n.natAbs)) => refMake_any (decide (n < 0)) s _ W hl
  rw [num_sign] at hw2
  have HW2 := Lib.hid hw2
  clear hw2
  have hz := (Below.refl w.heap.size w).alloc (Nat.le_refl _) (.cells #[.bool false, .slice none 0 0] 24)
  have x4 := Bx.new w (.bool false) (.slice none 0 0)
  have e2 : n < 0 → IntKind.u64.wrap (-IntKind.u64.wrap n) = ((n.natAbs : Nat) : Int) := fun h => by rw [IntKind.wrap_u64, IntKind.wrap_u64]; omega
  have e3 : 0 ≤ n → n = ((n.natAbs : Nat) : Int) := fun h => by omega
  have E2 := Lib.hid e2
  have E3 := Lib.hid e3
  have HD4 := Lib.hid hd4
  have hna : n.natAbs < 18446744073709551616 := by omega
  clear e2 e3 hd4
  rcases Int.lt_or_le n 0 with h0 | h0
  · have eb : decide (n < 0) = true := decide_eq_true h0
    rw [eb] at HW2
    have EB := Lib.hid eb
    clear eb
    go_enter Tryz.func54, Tryz.ntmps54
    go_wp2
    go_loopw [3, 4] (fun v3 v4 wr => FIRel n.natAbs w wr v3 v4) (fun v3 _ _ => (intOf v3).toNat)
    case atStart => exact ⟨n.natAbs, [], by rw [← E2.out h0], hna, rfl, World.ownsRow_nil _ _ _ _, hz, x4⟩
    case round =>
      obtain ⟨m, ds, rfl, hm, hds, hrow, hB, y4⟩ := hrel
      have HDS := Lib.hid hds
      clear hds
      rcases Nat.eq_zero_or_pos m with hm0 | hm0
      · subst hm0
        have hD : dig n.natAbs = ds := by rw [HDS.out, dig_zero, List.append_nil]
        have hl : Lim wr u4 ds := Lim.of_owns hrow (by rw [← hD]; have := HD4.out; omega)
        have hf := Fr.of_owns hrow
        rw [← hD] at hl
        obtain ⟨a3, c3, rfl⟩ := lim_slice hl
        clear hrow hD
        go_wp2_with (go_at_call 114; refine (HW2.out _ _ hl).mono ?_; rintro e w3 ⟨rfl, hb3⟩; have hB3 := hB.trans (hb3.mono hB.size); have v4 := y4.on hb3; obtain ⟨p4, p4'⟩ := v4.cells; obtain ⟨f4, f4'⟩ := v4.free)
        obtain ⟨k4, k4'⟩ := (v4.put (.bool true) (.slice a3 (dig n.natAbs).length c3)).cells
        have hlf : LimF (w.heap.size + 1) wr (.slice a3 (dig n.natAbs).length c3) (dig n.natAbs) := ⟨hl, hf⟩
        have hl3 := ((hlf.below hb3).put (B' := w.heap.size) (Nat.lt_succ_self _) (.bool true) (.slice a3 (dig n.natAbs).length c3)).mono (Nat.le_succ _)
        exact bodyPost_ret (v := .agg #[.bool true, .slice a3 (dig n.natAbs).length c3]) (by simp [results, Tryz.results54, go_sem, k4, k4']) rfl ⟨⟨_, rfl, _, by rw [EB.out], hl3⟩, Below.put hB3 (Nat.le_refl _) _ _⟩
      · have hm1 : (0 : Int) < (m : Int) := by omega
        have hlen : ds.length ≤ 4 := by have := HD4.out; rw [HDS.out, List.length_append] at this; omega
        have eX : cellsOf ds ++ [Value.int .u16 ((m : Int) % 65536)] = cellsOf (ds ++ [m % 65536]) := by rw [← cellsOf_snoc]; simp
        have HE := Lib.hid eX
        have hN : dig n.natAbs = (ds ++ [m % 65536]) ++ dig (m / 65536) := by rw [HDS.out, dig_pos (show m ≠ 0 by omega)]; simp
        have HN := Lib.hid hN
        have hmi : (m : Int) < 18446744073709551616 := by omega
        clear eX hN
        go_wp2_with (at_builtin; refine wpList_append_own _ rfl _ _ 22 rfl (w.heap.size + 1) 62 i0 (.int .u16 0) 1 2 Tryz.underlying22 hi hz0 hz1 hz2 rfl (by decide) _ _ _ rfl (hrow.alloc _) ⟨wr.heap.size, 0, none⟩ 1 1 [.int .u16 ((m : Int) % 65536)] rfl rfl (cell_one_new _ _ _) (by simp [Value.oneCell']) (by unfold maxLen; omega) (by omega) (by simp; have := y4.lt; omega) ?_; intro v' w2 hrow2 hgrow _)
        rw [HE.out] at hrow2
        have hne : u4.ownBlock ≠ some w.heap.size := fun e => by have := (hrow.lt _ e).1; omega
        have y42 : Bx w2 w.heap.size (.bool false) (.slice none 0 0) := (hgrow.block w.heap.size ((y4.alloc _).lt) (fun e => hne e.symm)).trans (y4.alloc _)
        have hB2 := (hB.alloc hB.size (.cells #[.int .u16 ((m : Int) % 65536)] 62)).grown hgrow (by simp; have := hB.size; omega) (fun k e => by have := (hrow.lt k e).1; omega)
        go_roundw
        case rel => exact ⟨m / 65536, ds ++ [m % 65536], by go_num, by omega, HN.out, by simpa using hrow2, hB2, y42⟩
        case measure => simp [intOf]; omega
  · go_enter Tryz.func54, Tryz.ntmps54
    go_wp2
    go_loopw [3, 4] (fun v3 v4 wr => FIRel n.natAbs w wr v3 v4) (fun v3 _ _ => (intOf v3).toNat)
    case atStart => exact ⟨n.natAbs, [], by rw [← E3.out h0], hna, rfl, World.ownsRow_nil _ _ _ _, hz, x4⟩
    case round =>
      obtain ⟨m, ds, rfl, hm, hds, hrow, hB, y4⟩ := hrel
      have HDS := Lib.hid hds
      clear hds
      rcases Nat.eq_zero_or_pos m with hm0 | hm0
      · subst hm0
        have hD : dig n.natAbs = ds := by rw [HDS.out, dig_zero, List.append_nil]
        have hl : Lim wr u4 ds := Lim.of_owns hrow (by rw [← hD]; have := HD4.out; omega)
        have hf := Fr.of_owns hrow
        rw [← hD] at hl
        obtain ⟨a3, c3, rfl⟩ := lim_slice hl
        clear hrow hD
        go_wp2_with (go_at_call 114; refine (HW2.out _ _ hl).mono ?_; rintro e w3 ⟨rfl, hb3⟩; have hB3 := hB.trans (hb3.mono hB.size); have v4 := y4.on hb3; obtain ⟨p4, p4'⟩ := v4.cells; obtain ⟨f4, f4'⟩ := v4.free)
        obtain ⟨k4, k4'⟩ := (v4.put (.bool (decide (n < 0))) (.slice a3 (dig n.natAbs).length c3)).cells
        have hlf : LimF (w.heap.size + 1) wr (.slice a3 (dig n.natAbs).length c3) (dig n.natAbs) := ⟨hl, hf⟩
        have hl3 := ((hlf.below hb3).put (B' := w.heap.size) (Nat.lt_succ_self _) (.bool (decide (n < 0))) (.slice a3 (dig n.natAbs).length c3)).mono (Nat.le_succ _)
        exact bodyPost_ret (v := .agg #[.bool (decide (n < 0)), .slice a3 (dig n.natAbs).length c3]) (by simp [results, Tryz.results54, go_sem, k4, k4']) rfl ⟨⟨_, rfl, _, rfl, hl3⟩, Below.put hB3 (Nat.le_refl _) _ _⟩
      · have hm1 : (0 : Int) < (m : Int) := by omega
        have hlen : ds.length ≤ 4 := by have := HD4.out; rw [HDS.out, List.length_append] at this; omega
        have eX : cellsOf ds ++ [Value.int .u16 ((m : Int) % 65536)] = cellsOf (ds ++ [m % 65536]) := by rw [← cellsOf_snoc]; simp
        have HE := Lib.hid eX
        have hN : dig n.natAbs = (ds ++ [m % 65536]) ++ dig (m / 65536) := by rw [HDS.out, dig_pos (show m ≠ 0 by omega)]; simp
        have HN := Lib.hid hN
        have hmi : (m : Int) < 18446744073709551616 := by omega
        clear eX hN
        go_wp2_with (at_builtin; refine wpList_append_own _ rfl _ _ 22 rfl (w.heap.size + 1) 62 i0 (.int .u16 0) 1 2 Tryz.underlying22 hi hz0 hz1 hz2 rfl (by decide) _ _ _ rfl (hrow.alloc _) ⟨wr.heap.size, 0, none⟩ 1 1 [.int .u16 ((m : Int) % 65536)] rfl rfl (cell_one_new _ _ _) (by simp [Value.oneCell']) (by unfold maxLen; omega) (by omega) (by simp; have := y4.lt; omega) ?_; intro v' w2 hrow2 hgrow _)
        rw [HE.out] at hrow2
        have hne : u4.ownBlock ≠ some w.heap.size := fun e => by have := (hrow.lt _ e).1; omega
        have y42 : Bx w2 w.heap.size (.bool false) (.slice none 0 0) := (hgrow.block w.heap.size ((y4.alloc _).lt) (fun e => hne e.symm)).trans (y4.alloc _)
        have hB2 := (hB.alloc hB.size (.cells #[.int .u16 ((m : Int) % 65536)] 62)).grown hgrow (by simp; have := hB.size; omega) (fun k e => by have := (hrow.lt k e).1; omega)
        go_roundw
        case rel => exact ⟨m / 65536, ds ++ [m % 65536], by go_num, by omega, HN.out, by simpa using hrow2, hB2, y42⟩
        case measure => simp [intOf]; omega
theorem num_eq_iff (a b : Int) : (decide (a < 0) = decide (b < 0) ∧ dig a.natAbs = dig b.natAbs) ↔ a = b := by
  constructor
  · rintro ⟨h1, h2⟩
    have h3 := congrArg val h2
    rw [val_dig, val_dig] at h3
    have h4 := decide_eq_decide.1 h1
    omega
  · rintro rfl; exact ⟨rfl, rfl⟩
theorem refSame_num (va vb : Value) (a b : Int) (w : World) (h : Num w va a) (g : Num w vb b) :
    Calls Tryz.prog 63 #[va, vb] w fun e w' => e = .returned (.bool (decide (a = b))) ∧ Below w.heap.size w w' := by
  obtain ⟨s, rfl, h⟩ := h
  obtain ⟨s', rfl, g⟩ := g
  have := refSame_any (decide (a < 0)) s _ (decide (b < 0)) s' _ w h g
  rwa [show decide (decide (a < 0) = decide (b < 0) ∧ dig a.natAbs = dig b.natAbs) = decide (a = b) from decide_eq_decide.2 (num_eq_iff a b)] at this
end Go.Proofs.YthlclegajldphaaGreat
namespace Go.Proofs.YthlclegajldphaaGreat
open Go.RowKit Wh
theorem NumF.opened {B : Nat} {W : World} {v : Value} {z : Int} (h : NumF B W v z) : ∃ b a k c, v = .agg #[.bool b, .slice a k c] := by
  obtain ⟨s, rfl, hl⟩ := h
  obtain ⟨a, c, rfl⟩ := lf_slice hl
  exact ⟨_, _, _, _, rfl⟩
end Go.Proofs.YthlclegajldphaaGreat
namespace Go.Proofs.YthlclegajldphaaGreat
open Go.RowKit Wh
theorem Num.ond {W W' : World} {v : Value} {z : Int} (h : Num W v z) (hb : Below W.drew.heap.size W.drew W') : Num W' v z := h.below (((Below.refl W.heap.size W).drew).trans hb) (Nat.le_refl _)
end Go.Proofs.YthlclegajldphaaGreat
namespace Go.Proofs.YthlclegajldphaaGreat
open Go.ChangeShapes Go.WideShapes Go.ChangeAt Go.RowKit
theorem Tryz.ownKnob : ownKnob Tryz.prog.godebug = none := by kernel_rfl
theorem lawPost {H : Type} {enc : TypeId × Value → H} {P : Program} {f : Func} {s : ChangeSpec} {apart fresh handsOn again : Bool} {W W' : World} {args : Array Value} {v : Value} {ds gs : List (DataW H)} {pl pa pv : List MemPlace}
    (hw : DataW.Whole enc P f.params.toList s.vars apart W args.toList ds gs pl) (hb : Below W.heap.size W W') (hpl : pl = pa ++ pv)
    (hok : ∀ (j : Nat) (t : TypeId) (r : Value), f.resultTypes[j]? = some t → (v.resultList f.resultTypes.size)[j]? = some r → Value.okWide P W' .any 0 t r)
    (hr : ∀ (b : Nat) (sp : Nat → Bool) (hd : Bool), DataW.TrodAll enc P W' b sp hd f.resultTypes.toList (v.resultList f.resultTypes.size) (s.fn H (ds ++ gs)).results [])
    (ha : ∀ sp : Nat → Bool, (∀ p ∈ pl, sp p.block = true) → DataW.TrodAll enc P W' 0 sp true f.params.toList args.toList (s.fn H (ds ++ gs)).args pa)
    (hv : ∀ sp : Nat → Bool, (∀ p ∈ pl, sp p.block = true) → DataW.TrodVars enc P W' sp s.vars (s.fn H (ds ++ gs)).vars pv) :
    s.post enc P f apart fresh handsOn again W args v W' := by
  subst hpl
  have below : ∀ p ∈ pa ++ pv, p.block < W.heap.size := fun p hp => hw.lt p hp
  have sp0 : ∀ p ∈ pa ++ pv, decide (p.block < W.heap.size) = true := fun p hp => decide_eq_true (below p hp)
  have every : ∀ p ∈ pa ++ pv, (fun _ : Nat => true) p.block = true := fun _ _ => rfl
  obtain ⟨p0, q0, h1, h2, h3, hz, hn⟩ := id hw
  have A1 := ha (fun b => decide (b < W.heap.size)) sp0
  have V1 := hv (fun b => decide (b < W.heap.size)) sp0
  have fr : ∀ b off, MemPlace.cell b off ∈ pa ++ pv → W'.frozen? ⟨b, off, none⟩ = false := fun b off hp => (hb.frozen (p := ⟨b, off, none⟩) (below _ hp)).trans (hz b off hp)
  refine ⟨ds, gs, pa ++ pv, [], pa, pv, hw, hr _ _ _, A1, V1, World.keptBut_mono (fun p hp => ⟨hp, .inr (by simpa using hp)⟩) (hb.frame (· ∈ pa ++ pv)), fun _ => ⟨hok, _, _, [] ++ pa ++ pv, ⟨[] ++ pa, pv, trodAll_append (ha _ every) (hr _ _ _), hv _ every, rfl, fun b off hp => fr b off (by simpa using hp), fun h => by simpa using hn h⟩, ?_⟩⟩
  intro p hp _
  simpa using hp
end Go.Proofs.YthlclegajldphaaGreat
namespace Go.Proofs.YthlclegajldphaaGreat
open Go.ChangeShapes Go.WideShapes Go.ChangeAt Go.RowKit Wh
theorem Tryz.cellsW : Tryz.prog.cellsOf 24 = 2 := by kernel_rfl
theorem Tryz.cellsU : Tryz.prog.cellsOf 62 = 1 := by kernel_rfl
theorem Tryz.bytesU : Tryz.prog.bytesOf 62 = 2 := by kernel_rfl
def Within {H : Type} (t : TypeId) (d : DataW H) : Prop := ∀ n ∈ d.weights Tryz.prog t, n ≤ reachBytes
theorem within_of {H : Type} {ts : List TypeId} {ds : List (DataW H)} (h : (DataW.weightsEach Tryz.prog ts ds).all (· ≤ reachBytes) = true) {j : Nat} {t : TypeId} {d : DataW H} (ht : ts[j]? = some t) (hd : ds[j]? = some d) : Within t d := fun n hn => by
  simpa using List.all_eq_true.1 h _ (DataW.weights_mem_each ht hd n hn)
theorem u16_bd {n : Int} (h : (Lit.int .u16 n).wf = true) : 0 ≤ n ∧ n < 65536 := by
  have e1 : IntKind.min .u16 = 0 := by decide
  have e2 : IntKind.max .u16 = 65535 := by decide
  simp only [Lit.wf, Bool.and_eq_true, decide_eq_true_eq, e1, e2] at h
  omega
theorem lim_of_ints {W : World} {a : Addr} {len cap : Nat} {zs : List Int} (hl : len ≤ cap) (hm : cap ≤ maxLen) (hz : zs.length = cap) (hr : cap ≤ 70368744175616) (hc : ∀ i, i < zs.length → W.cell? (a.add i) = some (.int .u16 (zs.getD i 0))) (hw : ∀ n ∈ zs, (Lit.int .u16 n).wf = true) :
    Lim W (.slice (some a) len cap) ((zs.take len).map Int.toNat) ∧ Lm ((zs.take len).map Int.toNat) := by
  unfold maxLen at hm
  have hlen : ((zs.take len).map Int.toNat).length = len := by simp; omega
  refine ⟨⟨some a, cap, by rw [hlen], by omega, ⟨by omega, by omega, fun e => by cases e⟩, ?_⟩, ?_⟩
  · rcases Nat.eq_zero_or_pos len with h0 | h0
    · exact .inl (List.eq_nil_of_length_eq_zero (by omega))
    · obtain ⟨b, off, spot⟩ := a
      have hs : spot = none := by simpa [Addr.add] using World.cell?_spot (hc 0 (by omega))
      subst hs
      refine .inr ⟨b, off, rfl, fun j hj => ?_⟩
      have hj' : j < zs.length := by omega
      have c := hc j hj'
      rw [add_eq] at c
      rw [c]
      have e1 : ((zs.take len).map Int.toNat)[j]?.getD 0 = (zs[j]).toNat := by
        rw [List.getElem?_map, List.getElem?_take_of_lt (by omega), List.getElem?_eq_getElem hj']; rfl
      have e2 : zs.getD j 0 = zs[j] := by simp [List.getD, hj']
      have := u16_bd (hw zs[j] (List.getElem_mem hj'))
      rw [e1, e2, Int.toNat_of_nonneg this.1]
  · intro x hx
    obtain ⟨n, hn, rfl⟩ := List.mem_map.1 hx
    have := u16_bd (hw n (List.mem_of_mem_take hn))
    omega
end Go.Proofs.YthlclegajldphaaGreat
namespace Go.Proofs.YthlclegajldphaaGreat
open Go.RowKit Wh
def Sz (n : Nat) (z : Int) : Prop := (dig z.natAbs).length ≤ n
theorem Sz.lt {n : Nat} {z : Int} (h : Sz n z) : z.natAbs < 65536 ^ n := (length_dig_le _ _).1 h
theorem Sz.of_lt {n : Nat} {z : Int} (h : z.natAbs < 65536 ^ n) : Sz n z := (length_dig_le _ _).2 h
theorem Sz.len {n : Nat} {z : Int} (h : Sz n z) (hn : n ≤ 1024) : (dig z.natAbs).length ≤ 1024 := Nat.le_trans h hn
theorem Sz.len2 {n : Nat} {z : Int} (h : Sz n z) : (dig z.natAbs).length ≤ n := h
theorem Sz.mono {n m : Nat} {z : Int} (h : Sz n z) (hn : n ≤ m) : Sz m z := Nat.le_trans h hn
theorem Sz.neg {n : Nat} {z : Int} (h : Sz n z) : Sz n (-z) := by unfold Sz; rw [Int.natAbs_neg]; exact h
theorem Sz.add {n m : Nat} {a b : Int} (h : Sz n a) (g : Sz m b) : Sz (max n m + 1) (a + b) := by
  refine Sz.of_lt ?_
  have h1 := (h.mono (Nat.le_max_left n m)).lt
  have h2 := (g.mono (Nat.le_max_right n m)).lt
  rw [Nat.pow_succ]
  have := Int.natAbs_add_le a b
  omega
theorem Sz.sub {n m : Nat} {a b : Int} (h : Sz n a) (g : Sz m b) : Sz (max n m + 1) (a - b) := by
  rw [Int.sub_eq_add_neg]; exact h.add g.neg
theorem Sz.mul {n m : Nat} {a b : Int} (h : Sz n a) (g : Sz m b) : Sz (n + m) (a * b) := by
  refine Sz.of_lt ?_
  rw [Int.natAbs_mul, Nat.pow_add]
  exact Nat.lt_of_le_of_lt (Nat.mul_le_mul_left _ (Nat.le_of_lt g.lt)) (Nat.mul_lt_mul_of_pos_right h.lt (Nat.pow_pos (by decide)))
theorem Sz.small {z : Int} (h : z.natAbs < 65536) : Sz 1 z := Sz.of_lt (by simpa using h)
theorem num_of_vld {W : World} {b : Bool} {s : Value} {l : List Nat} (hv : vld b l = true) (hl : Lim W s l) (hm : Lm l) : ∃ z : Int, b = decide (z < 0) ∧ l = dig z.natAbs ∧ Num W (.agg #[.bool b, s]) z := by
  have hd : l = dig (val l) := by
    refine (dig_val hm fun hne e => ?_).symm
    unfold vld at hv
    rw [if_neg hne] at hv
    simp only [Bool.and_eq_true, decide_eq_true_eq] at hv
    refine hv.2 ?_
    rw [List.getLast_eq_getElem] at e
    rw [getD_lt_length (by have := List.length_pos_iff.2 hne; omega), e]
  have h0 : l = [] → b = false := fun e => by unfold vld at hv; rw [if_pos e] at hv; simpa using hv
  have e0 : l = [] ↔ val l = 0 := by
    constructor
    · intro e; rw [e]; rfl
    · intro e; rw [hd, e, dig_zero]
  cases b with
  | false =>
    refine ⟨(val l : Int), ?_, by rw [Int.natAbs_natCast]; exact hd, s, ?_, by rw [Int.natAbs_natCast, ← hd]; exact hl⟩ <;> simp
  | true =>
    have hp : val l ≠ 0 := fun e => by have := h0 (e0.2 e); simp at this
    have e1 : decide (-(val l : Int) < 0) = true := decide_eq_true (by omega)
    exact ⟨-(val l : Int), e1.symm, by rw [Int.natAbs_neg, Int.natAbs_natCast]; exact hd, s, by rw [e1], by rw [Int.natAbs_neg, Int.natAbs_natCast, ← hd]; exact hl⟩
theorem lim_len {W : World} {a : Option Addr} {k c : Nat} {l : List Nat} (h : Lim W (.slice a k c) l) : k = l.length := by
  obtain ⟨a', c', e, -⟩ := h; injection e
end Go.Proofs.YthlclegajldphaaGreat
