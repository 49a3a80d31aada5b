/-
'SpanLaws': the laws of Union, Meet and Minus; Make of all spans of two sets.
-/
import Derived.Test.YtppihnliimbakaaAlgebra
namespace Go.Proofs.Ytppihnliimbakaa
open Go.RowKit Go.Shelf Sp

theorem set_same {W : World} {B : Nat} {t : TypeId} {v : Value} (h : Boxed W B t v) (n : Nat) : Below n W (W.setCell ⟨B, 0, none⟩ v) :=
  ⟨rfl, rfl, rfl, by simp [World.setCell], fun k _ => by
    by_cases hk : k = B
    · subst hk; exact (show _ = _ from (h.set v)).trans (show _ = _ from h).symm
    · exact Below.heap_setCell _ _ _ _ hk⟩

set_option maxHeartbeats 2000000 in
theorem do_Union {va vb : Value} {a b : L} {B : Nat} {w : World} (ha : IsSet a) (hb : IsSet b) (hla : Spn w va a) (hlb : Spn w vb b) (hB : Boxed w B 28 (.int .i64 0)) :
    Calls Try.prog 24 #[.func (.func 16) #[] #[], va, vb, .pointer (some ⟨B, 0, none⟩)] w (GivesV (comb opU a b) w) := by
  have HC := Lib.hid (Union_ok va vb a b ha hb w hla hlb)
  obtain ⟨aa, ca, rfl, -⟩ := hla
  obtain ⟨ab, cb, rfl, -⟩ := hlb
  have HX := Lib.hid hB
  clear hB ha hb
  go_enter Try.func24, Try.ntmps24
  go_wp2_with fail
  refine HC.out.mono ?_
  rintro e w1 ⟨⟨v, rfl, hown⟩, hb1⟩
  have b2 := r_box HX.out hb1
  have c2 := b2.cell
  have f2 := b2.frozen
  have HS := Lib.hid (set_same b2 w.heap.size)
  have HO := Lib.hid (hown.kept (grownBy_setCell' w1 B (.int .i64 0)) (.inr (b2.not_row (by decide) hown).symm))
  have HB1 := Lib.hid hb1
  clear hown hb1 b2
  go_wp2
  go_ret
  exact ⟨⟨v, rfl, HO.out⟩, HB1.out.trans HS.out⟩

set_option maxHeartbeats 2000000 in
theorem do_Meet {va vb : Value} {a b : L} {B : Nat} {w : World} (ha : IsSet a) (hb : IsSet b) (hla : Spn w va a) (hlb : Spn w vb b) (hB : Boxed w B 28 (.int .i64 0)) :
    Calls Try.prog 24 #[.func (.func 17) #[] #[], va, vb, .pointer (some ⟨B, 0, none⟩)] w (GivesV (comb opM a b) w) := by
  have HC := Lib.hid (Meet_ok va vb a b ha hb w hla hlb)
  obtain ⟨aa, ca, rfl, -⟩ := hla
  obtain ⟨ab, cb, rfl, -⟩ := hlb
  have HX := Lib.hid hB
  clear hB ha hb
  go_enter Try.func24, Try.ntmps24
  go_wp2_with fail
  refine HC.out.mono ?_
  rintro e w1 ⟨⟨v, rfl, hown⟩, hb1⟩
  have b2 := r_box HX.out hb1
  have c2 := b2.cell
  have f2 := b2.frozen
  have HS := Lib.hid (set_same b2 w.heap.size)
  have HO := Lib.hid (hown.kept (grownBy_setCell' w1 B (.int .i64 0)) (.inr (b2.not_row (by decide) hown).symm))
  have HB1 := Lib.hid hb1
  clear hown hb1 b2
  go_wp2
  go_ret
  exact ⟨⟨v, rfl, HO.out⟩, HB1.out.trans HS.out⟩

set_option maxHeartbeats 2000000 in
theorem do_Minus {va vb : Value} {a b : L} {B : Nat} {w : World} (ha : IsSet a) (hb : IsSet b) (hla : Spn w va a) (hlb : Spn w vb b) (hB : Boxed w B 28 (.int .i64 0)) :
    Calls Try.prog 24 #[.func (.func 18) #[] #[], va, vb, .pointer (some ⟨B, 0, none⟩)] w (GivesV (comb opD a b) w) := by
  have HC := Lib.hid (Minus_ok va vb a b ha hb w hla hlb)
  obtain ⟨aa, ca, rfl, -⟩ := hla
  obtain ⟨ab, cb, rfl, -⟩ := hlb
  have HX := Lib.hid hB
  clear hB ha hb
  go_enter Try.func24, Try.ntmps24
  go_wp2_with fail
  refine HC.out.mono ?_
  rintro e w1 ⟨⟨v, rfl, hown⟩, hb1⟩
  have b2 := r_box HX.out hb1
  have c2 := b2.cell
  have f2 := b2.frozen
  have HS := Lib.hid (set_same b2 w.heap.size)
  have HO := Lib.hid (hown.kept (grownBy_setCell' w1 B (.int .i64 0)) (.inr (b2.not_row (by decide) hown).symm))
  have HB1 := Lib.hid hb1
  clear hown hb1 b2
  go_wp2
  go_ret
  exact ⟨⟨v, rfl, HO.out⟩, HB1.out.trans HS.out⟩

/-- Both sides are sets with the same days. -/
theorem eq_of_mem {x y : L} (hx : IsSet x) (hy : IsSet y) (h : ∀ d, memB x d = memB y d) : x = y := set_ext hx hy fun d => by rw [← memB_iff, ← memB_iff, h d]

structure Eqs (a b c : L) : Prop where
  e1 : comb opU a b = comb opU b a
  e2 : comb opM a b = comb opM b a
  e3 : comb opU (comb opU a b) c = comb opU a (comb opU b c)
  e4 : comb opM (comb opM a b) c = comb opM a (comb opM b c)
  e5 : comb opM a (comb opU b c) = comb opU (comb opM a b) (comb opM a c)
  e6 : comb opU a (comb opM b c) = comb opM (comb opU a b) (comb opU a c)
  e7 : comb opD a b = comb opD a (comb opM a b)
theorem eqs {a b c : L} (ha : IsSet a) (hb : IsSet b) (hc : IsSet c) : Eqs a b c := by
  have U := fun {x y : L} (hx : IsSet x) (hy : IsSet y) => (comb_spec opU rfl hx hy).1
  have M := fun {x y : L} (hx : IsSet x) (hy : IsSet y) => (comb_spec opM rfl hx hy).1
  have D := fun {x y : L} (hx : IsSet x) (hy : IsSet y) => (comb_spec opD rfl hx hy).1
  have u := fun {x y : L} (hx : IsSet x) (hy : IsSet y) d => memB_comb (op := opU) rfl hx hy d
  have m := fun {x y : L} (hx : IsSet x) (hy : IsSet y) d => memB_comb (op := opM) rfl hx hy d
  have e := fun {x y : L} (hx : IsSet x) (hy : IsSet y) d => memB_comb (op := opD) rfl hx hy d
  refine ⟨eq_of_mem (U ha hb) (U hb ha) fun d => ?_, eq_of_mem (M ha hb) (M hb ha) fun d => ?_, eq_of_mem (U (U ha hb) hc) (U ha (U hb hc)) fun d => ?_, eq_of_mem (M (M ha hb) hc) (M ha (M hb hc)) fun d => ?_,
    eq_of_mem (M ha (U hb hc)) (U (M ha hb) (M ha hc)) fun d => ?_, eq_of_mem (U ha (M hb hc)) (M (U ha hb) (U ha hc)) fun d => ?_, eq_of_mem (D ha hb) (D ha (M ha hb)) fun d => ?_⟩
  · rw [u ha hb, u hb ha]; exact Bool.or_comm _ _
  · rw [m ha hb, m hb ha]; exact Bool.and_comm _ _
  · rw [u (U ha hb) hc, u ha hb, u ha (U hb hc), u hb hc]; exact Bool.or_assoc _ _ _
  · rw [m (M ha hb) hc, m ha hb, m ha (M hb hc), m hb hc]; exact Bool.and_assoc _ _ _
  · rw [m ha (U hb hc), u hb hc, u (M ha hb) (M ha hc), m ha hb, m ha hc]; cases memB a d <;> rfl
  · rw [u ha (M hb hc), m hb hc, m (U ha hb) (U ha hc), u ha hb, u ha hc]; cases memB a d <;> rfl
  · rw [e ha hb, e ha (M ha hb), m ha hb]; cases memB a d <;> rfl

/-- What has been mixed together behind i rounds and q parts of the next one. -/
structure Mx (a b : L) (i q : Nat) (M : L) : Prop where
  inn : ∀ s ∈ M, s ∈ a ∨ s ∈ b
  bb : ∀ p, (p < i ∨ (p = i ∧ 1 ≤ q)) → (h : p < b.length) → b[b.length - 1 - p]'(by omega) ∈ M
  aa : ∀ p, (p < i ∨ (p = i ∧ 2 ≤ q)) → (h : p < a.length) → a[a.length - 1 - p]'(by omega) ∈ M
  len : M.length ≤ 3 * i + q
theorem Mx.start (a b : L) : Mx a b 0 0 [] := ⟨(fun _ h => nomatch h), (fun p h => by omega), (fun p h => by omega), (by simp)⟩
theorem Mx.next {a b : L} {i : Nat} {M : L} (h : Mx a b i 3 M) : Mx a b (i + 1) 0 M :=
  ⟨h.inn, fun p hp => h.bb p (by omega), fun p hp => h.aa p (by omega), by have := h.len; omega⟩
theorem Mx.skipB {a b : L} {i q : Nat} {M : L} (h : Mx a b i q M) (hq : q = 0 ∨ q = 2) (hi : ¬ i < b.length) : Mx a b i (q + 1) M :=
  ⟨h.inn, fun p hp hb => h.bb p (by omega) hb, fun p hp ha => h.aa p (by omega) ha, by have := h.len; omega⟩
theorem Mx.skipA {a b : L} {i : Nat} {M : L} (h : Mx a b i 1 M) (hi : ¬ i < a.length) : Mx a b i 2 M :=
  ⟨h.inn, fun p hp hb => h.bb p (by omega) hb, fun p hp ha => h.aa p (by omega) ha, by have := h.len; omega⟩
theorem Mx.putB {a b : L} {i q : Nat} {M : L} (h : Mx a b i q M) (hq : q = 0 ∨ q = 2) (hi : i < b.length) : Mx a b i (q + 1) (M ++ [b[b.length - 1 - i]'(by omega)]) := by
  refine ⟨fun s hs => ?_, fun p hp hb => ?_, fun p hp ha => List.mem_append_left _ (h.aa p (by omega) ha), by have := h.len; simp; omega⟩
  · rcases List.mem_append.1 hs with hs | hs
    · exact h.inn s hs
    · simp at hs; subst hs; exact .inr (List.getElem_mem _)
  · by_cases hpi : p = i
    · subst hpi; simp
    · exact List.mem_append_left _ (h.bb p (by omega) hb)
theorem Mx.putA {a b : L} {i : Nat} {M : L} (h : Mx a b i 1 M) (hi : i < a.length) : Mx a b i 2 (M ++ [a[a.length - 1 - i]'(by omega)]) := by
  refine ⟨fun s hs => ?_, fun p hp hb => List.mem_append_left _ (h.bb p (by omega) hb), fun p hp ha => ?_, by have := h.len; simp; omega⟩
  · rcases List.mem_append.1 hs with hs | hs
    · exact h.inn s hs
    · simp at hs; subst hs; exact .inl (List.getElem_mem _)
  · by_cases hpi : p = i
    · subst hpi; simp
    · exact List.mem_append_left _ (h.aa p (by omega) ha)
theorem Mx.done {a b : L} {i : Nat} {M : L} (h : Mx a b i 0 M) (hi : a.length ≤ i ∧ b.length ≤ i) (ha : IsSet a) (hb : IsSet b) : AllOk M ∧ make M = comb opU a b := by
  have hok : AllOk M := fun s hs => by
    rw [okB_iff]
    rcases h.inn s hs with hm | hm
    · obtain ⟨j, hj, rfl⟩ := List.getElem_of_mem hm
      have := ha.get hj; omega
    · obtain ⟨j, hj, rfl⟩ := List.getElem_of_mem hm
      have := hb.get hj; omega
  obtain ⟨g1, g2⟩ := gath_spec M.length M (Nat.le_refl _) hok
  refine ⟨hok, set_ext g1 (comb_spec opU rfl ha hb).1 fun d => ?_⟩
  rw [show Mem (make M) d ↔ Mem M d from g2 d, ← memB_iff (comb opU a b), memB_comb rfl ha hb, opU, Bool.or_eq_true, memB_iff, memB_iff]
  constructor
  · rintro ⟨s, hs, h1, h2⟩
    exact (h.inn s hs).imp (fun hm => ⟨s, hm, h1, h2⟩) (fun hm => ⟨s, hm, h1, h2⟩)
  · rintro (⟨s, hs, h1, h2⟩ | ⟨s, hs, h1, h2⟩)
    · obtain ⟨j, hj, rfl⟩ := List.getElem_of_mem hs
      have := h.aa (a.length - 1 - j) (by omega) (by omega)
      simp only [show a.length - 1 - (a.length - 1 - j) = j from by omega] at this
      exact ⟨_, this, h1, h2⟩
    · obtain ⟨j, hj, rfl⟩ := List.getElem_of_mem hs
      have := h.bb (b.length - 1 - j) (by omega) (by omega)
      simp only [show b.length - 1 - (b.length - 1 - j) = j from by omega] at this
      exact ⟨_, this, h1, h2⟩

/-- Block B holds three slices. -/
def Tx (W : World) (B : Nat) (x y z : Value) : Prop := W.heap[B]? = some (.cells #[x, y, z] 22 (0, 0))
theorem Tx.lt {W B x y z} (h : Tx W B x y z) : B < W.heap.size := (Array.getElem?_eq_some_iff.1 h).1
theorem Tx.cells {W B x y z} (h : Tx W B x y z) : W.cell? ⟨B, 0, none⟩ = some x ∧ W.cell? ⟨B, 1, none⟩ = some y ∧ W.cell? ⟨B, 2, none⟩ = some z := by
  unfold Tx at h
  refine ⟨?_, ?_, ?_⟩ <;> simp [World.cell?, h]
theorem Tx.kept {W W' : World} {row : Option Nat} {B x y z} (h : Tx W B x y z) (hg : W.grownBy W' row) (hne : some B ≠ row) : Tx W' B x y z := (hg.block B h.lt hne).trans h
theorem Tx.alloc {W : World} {B x y z} (h : Tx W B x y z) (o : Obj) : Tx (W.alloc o) B x y z := h.kept (World.grownBy_alloc W o none) (by simp)
theorem Tx.not_row {W : World} {e : TypeId} {B : Nat} {x y z : Value} (h : Tx W B x y z) (hte : 22 ≠ e) {base size k : Nat} {v : Value} {xs : List Value} (hr : W.ownsRow base e size v k xs) : some B ≠ v.ownBlock := by
  rcases hr.2 with ⟨rfl, _⟩ | ⟨g, cap, cur, rfl, _, hgb, _⟩
  · simp [Value.ownBlock]
  · intro e'
    obtain rfl : B = g := by simpa [Value.ownBlock] using e'
    have := (show W.heap[B]? = _ from h).symm.trans hgb
    simp at this
    exact hte this.2

def Mixed (B : Nat) (W : World) (v : Value) (M : L) : Prop := W.ownsRow B 34 2 v M.length (cellsS M)

end Go.Proofs.Ytppihnliimbakaa
