/-
A row that is lengthened, in place or elsewhere.
-/
import Derived.Test.YtanlaejdibikiaaGreatFs
import Derived.ArgAppend
namespace Go.Proofs.YtanlaejdibikiaaGreat
open Go.RowKit Go.Shelf Sp

/-- The slice g holds l: it lies where row k lies, or in a block that is no older than L. -/
def Gat (N L : Nat) (W : World) (Ak : Option Addr) (Ck : Nat) (g : Value) (m : Nat) (l : Sp.L) : Prop :=
  W.ownsRow N 31 2 g m (cellsS l) ∧ (g = .slice Ak m Ck ∨ W.ownsRow L 31 2 g m (cellsS l))

theorem Fs.none {N : Nat} {W0 W W' : World} {A : Nat → Option Addr} {n C : Nat → Nat} {R : Nat → Sp.L} (h : Fs N W0 W A n C R) (hg : W.grownBy W' none) (hN : N ≤ W0.heap.size) : Fs N W0 W' A n C R :=
  h.on ((Below.refl _ _).grown hg (Nat.le_refl _) (fun k e => by cases e)) (Nat.le_trans hN h.sz)

theorem g_append {N L k m q c : Nat} {W0 W : World} {A : Nat → Option Addr} {n C : Nat → Nat} {R : Nat → Sp.L} {ops : Array Oper} {rest : List Oper} {o : Oper} {ac : Act} {Q : Exit → Act → World → Prop} (hgd : o.guard = none) (s x : Operand)
    (ho : o.op = .call { callee := .builtin .append, args := #[s, x], argTypes := #[22, 22] }) (hN : N ≤ W0.heap.size) (hF : Fs N W0 W A n C R) (hk : k < 3) (hm : n k ≤ m) (g : Value) (hs : ac.eval s = g)
    (l l2 : Sp.L) (hl : l.take (n k) = R k) (hG : Gat N L W (A k) (C k) g m l) (ad : Addr) (hx : ac.eval x = .slice (some ad) q c) (hl2 : l2.length = q) (hc : ∀ j u, (cellsS l2)[j]? = some u → W.cell? (ad.add j) = some u)
    (hL0 : W0.heap.size ≤ L) (hLW : L ≤ W.heap.size) (hlen : m + q ≤ 100000)
    (h : ∀ g' w', Fs N W0 w' A n C R → Gat N L w' (A k) (C k) g' (m + q) (l ++ l2) → (∀ b, b < L → (Value.slice (A k) (n k) (C k)).ownBlock ≠ some b → w'.heap[b]? = W.heap[b]?) → L ≤ w'.heap.size → wpList Tryz.prog ops Q rest (ac.put o.dst g') w') :
    wpList Tryz.prog ops Q (o :: rest) ac W := by
  obtain ⟨i0, hi, hz0, hz1, hz2⟩ := info_parts Tryz.infoS
  obtain ⟨hrow, hat⟩ := hG
  have hlm : l.length = m := by have := hrow.1; rw [cellsS_length] at this; omega
  have hcl : (cellsS l2).length = q * 2 := by rw [cellsS_length, hl2]
  have htk : (l ++ l2).take (n k) = R k := by rw [List.take_append_of_le_length (by omega), hl]
  rcases hat with rfl | hat
  · by_cases hr : m + q ≤ C k ∧ ∃ b, A k = some ⟨b, 0, none⟩
    · obtain ⟨hr, b, hA⟩ := hr
      rw [hA] at hs hrow
      refine wpList_append_fits W hgd s x 22 ho N 31 i0 2 Tryz.underlying22 hi hz1 b m (C k) (cellsS l) hs hrow ad q c (cellsS l2) hx hcl hc (cellsS_one l2) hr (fun w' r1 r2 => ?_)
      rw [← cellsS_append] at r1
      have hpre := own_prefix r1 (show n k ≤ m + q by omega)
      rw [htk] at hpre
      have hF2 := (hF.change hk hA r2 (R k) (hF.row k hk).1 (by rw [hA]; exact hpre) (Nat.le_trans hN hF.sz)).congr (R' := R) (fun j hj => by
        by_cases e : j = k
        · subst e; exact if_pos rfl
        · exact if_neg e)
      refine h _ w' hF2 ⟨r1, .inl (by rw [hA])⟩ (fun b' hb' hne => r2.block b' (Nat.lt_of_lt_of_le hb' hLW) (fun e => hne (by rw [hA]; exact e.symm))) (Nat.le_trans hLW r2.size)
    · have hcase : C k < m + q ∨ A k = none := by
        by_cases h1 : m + q ≤ C k
        · right
          rcases hrow.2 with ⟨e, _⟩ | ⟨g', cap', cur, e, _⟩
          · simp only [Value.slice.injEq] at e; exact e.1
          · simp only [Value.slice.injEq] at e; exact absurd ⟨h1, g', e.1⟩ hr
        · left; omega
      have hzero : A k = none → m = 0 ∧ C k = 0 := by
        intro e
        rcases hrow.2 with ⟨e', hz⟩ | ⟨g', cap', cur, e', _⟩
        · simp only [Value.slice.injEq] at e'; exact ⟨hz, e'.2.2⟩
        · rw [e] at e'; simp at e'
      by_cases hfull : C k < m + q
      · refine wpList_append_grows W hgd s x 22 ho 31 i0 (.agg #[.int .i64 0, .int .i64 0]) 2 16 Tryz.underlying22 hi hz0 hz1 hz2 rfl (by decide) (A k) m (C k) (cellsS l) hs hzero (by rw [cellsS_length, hlm]) (fun b e j u hu => ?_) ad q c (cellsS l2) hx hcl hc (cellsS_one l2) hfull (by unfold maxLen; omega) (by omega) (fun v' w' r1 r2 => ?_)
        · rcases hrow.2 with ⟨e', hz⟩ | ⟨g', cap', cur, e', _⟩
          · simp only [Value.slice.injEq] at e'; rw [e'.1] at e; cases e
          · simp only [Value.slice.injEq] at e'
            rw [e] at e'
            obtain rfl : b = ⟨g', 0, none⟩ := by simpa using e'.1
            rw [e] at hrow
            rw [add_eq, Nat.zero_add, hrow.cellAt j (by have := (List.getElem?_eq_some_iff.1 hu).1; rw [cellsS_length] at this; omega)]
            exact hu
        · rw [← cellsS_append] at r1
          exact h _ w' (hF.none r2 hN) ⟨own_mono r1 (Nat.le_trans hN hF.sz), .inr (own_mono r1 hLW)⟩ (fun b' hb' _ => r2.block b' (Nat.lt_of_lt_of_le hb' hLW) (by simp)) (Nat.le_trans hLW r2.size)
      · obtain ⟨z1, z2⟩ := hzero (hcase.resolve_left hfull)
        have hq : q = 0 := by omega
        subst hq
        have hl20 : l2 = [] := List.eq_nil_of_length_eq_zero hl2
        have hl0 : l = [] := List.eq_nil_of_length_eq_zero (by omega)
        subst hl20 hl0
        subst z1
        refine wpList_append_own W hgd s x 22 ho N 31 i0 (.agg #[.int .i64 0, .int .i64 0]) 2 16 Tryz.underlying22 hi hz0 hz1 hz2 rfl (by decide) _ 0 _ hs hrow ad 0 c (cellsS []) hx hcl hc (cellsS_one []) (by unfold maxLen; omega) (by omega) (Nat.le_trans hN hF.sz) (fun v' w' r1 r2 r3 => ?_)
        rw [hcase.resolve_left hfull] at r2 r3
        obtain rfl := r3.2 ⟨by rw [z2], rfl⟩
        exact h _ w' (hF.none r2 hN) ⟨r1, .inl (by rw [hcase.resolve_left hfull, z2])⟩ (fun b' hb' _ => r2.block b' (Nat.lt_of_lt_of_le hb' hLW) (by simp [Value.ownBlock])) (Nat.le_trans hLW r2.size)
  · refine wpList_append_own W hgd s x 22 ho L 31 i0 (.agg #[.int .i64 0, .int .i64 0]) 2 16 Tryz.underlying22 hi hz0 hz1 hz2 rfl (by decide) g m _ hs hat ad q c (cellsS l2) hx hcl hc (cellsS_one l2) (by unfold maxLen; omega) (by omega) hLW (fun v' w' r1 r2 _ => ?_)
    rw [← cellsS_append] at r1
    have hNL : N ≤ L := Nat.le_trans hN hL0
    cases hb : g.ownBlock with
    | none =>
      rw [hb] at r2
      exact h _ w' (hF.none r2 hN) ⟨own_mono r1 hNL, .inr r1⟩ (fun b' hb' _ => r2.block b' (Nat.lt_of_lt_of_le hb' hLW) (by simp)) (Nat.le_trans hLW r2.size)
    | some b =>
      rw [hb] at r2
      have hbL := (hat.lt b hb).1
      exact h _ w' (hF.side r2 (Nat.le_trans hL0 hbL) hN) ⟨own_mono r1 hNL, .inr r1⟩ (fun b' hb' _ => r2.block b' (Nat.lt_of_lt_of_le hb' hLW) (fun e => by obtain rfl : b' = b := (by simpa using e); omega)) (Nat.le_trans hLW r2.size)

set_option maxHeartbeats 1000000 in
theorem markW_any (k i : Int) (hk : 0 ≤ k ∧ k ≤ 8) (hi : 0 ≤ i ∧ i ≤ 4000) (w : World) : Calls Tryz.prog 54 #[.int .i64 k, .int .i64 i] w fun e w' => e = .returned (.int .i64 (mk k i)) ∧ w = w' := by
  have q1 : IntKind.i64.wrap (k + 7) = k + 7 := IntWalk.i64_in _ (by omega)
  have q2 : IntKind.i64.wrap (1000003 * (k + 7)) = 1000003 * (k + 7) := IntWalk.i64_in _ (by omega)
  have q3 : IntKind.i64.wrap (1000003 * (k + 7) + i) = mk k i := IntWalk.i64_in _ (by omega)
  go_enter Tryz.func54, Tryz.ntmps54
  go_wp2
  go_ret
  exact ⟨by first | rfl | (unfold mk; rfl), rfl⟩

set_option maxHeartbeats 1000000 in
theorem markSpanW_any (k i : Int) (hk : 0 ≤ k ∧ k ≤ 8) (hi : 0 ≤ i ∧ i ≤ 4000) (w : World) : Calls Tryz.prog 37 #[.int .i64 k, .int .i64 i] w (Says (.agg #[.int .i64 (mk k i), .int .i64 0]) w) := by
  have HM := Lib.hid (fun W => markW_any k i hk hi W)
  have HX := Lib.hid ((Bx.new 31 w (.int .i64 0) (.int .i64 0)).put (.int .i64 (mk k i)) (.int .i64 0))
  have HB := Lib.hid ((((Below.refl w.heap.size w).alloc (Nat.le_refl _) (.cells #[.int .i64 0, .int .i64 0] 31)).setCell (p := ⟨w.heap.size, 0, none⟩) (Nat.le_refl _) (.int .i64 (mk k i))).setCell (p := ⟨w.heap.size, 1, none⟩) (Nat.le_refl _) (.int .i64 0))
  clear hk hi
  go_enter Tryz.func37, Tryz.ntmps37
  go_wp2_with fail
  refine (HM.out _).mono ?_
  rintro e w1 ⟨rfl, rfl⟩
  go_wp2
  obtain ⟨p1, p2⟩ := HX.out.cells
  refine bodyPost_ret (v := .agg #[.int .i64 (mk k i), .int .i64 0]) (by simp [results, Tryz.f37, go_sem]) rfl ?_
  exact ⟨rfl, (Below.refl _ _).alloc (Nat.le_refl _) _⟩

/-- A row stands where its block stands. -/
theorem own_same {W W' : World} {base m k : Nat} {T : TypeId} {g : Value} {xs : List Value} (h : W.ownsRow base T k g m xs) (e : ∀ b, g.ownBlock = some b → W'.heap[b]? = W.heap[b]?) : W'.ownsRow base T k g m xs := by
  refine ⟨h.1, ?_⟩
  rcases h.2 with h' | ⟨b, cap, cur, rfl, hb, hg, h1, h2, h3, h4⟩
  · exact .inl h'
  · exact .inr ⟨b, cap, cur, rfl, hb, (e b rfl).trans hg, h1, h2, h3, h4⟩
/-- Rows of two types are two blocks. -/
theorem own_ne {W : World} {b1 b2 m1 m2 k1 k2 q : Nat} {T1 T2 : TypeId} {g1 g2 : Value} {xs ys : List Value} (h1 : W.ownsRow b1 T1 k1 g1 m1 xs) (h2 : W.ownsRow b2 T2 k2 g2 m2 ys) (hT : T1 ≠ T2) (e1 : g1.ownBlock = some q) (e2 : g2.ownBlock = some q) : False := by
  rcases h1.2 with ⟨rfl, _⟩ | ⟨b, cap, cur, rfl, _, hg, _⟩
  · simp [Value.ownBlock] at e1
  · rcases h2.2 with ⟨rfl, _⟩ | ⟨b', cap', cur', rfl, _, hg', _⟩
    · simp [Value.ownBlock] at e2
    · obtain rfl : b = q := by simpa [Value.ownBlock] using e1
      obtain rfl : b' = b := by simpa [Value.ownBlock] using e2
      rw [hg] at hg'
      simp at hg'
      exact hT hg'.2
/-- What is handed from a round to the next: g and its row, where the blocks ahead of L stand, row k's apart. -/
theorem Gat.keep {N L L' j k : Nat} {W0 W W' : World} {A : Nat → Option Addr} {n C : Nat → Nat} {R : Nat → Sp.L} {g : Value} {m : Nat} {l : Sp.L} (hF : Fs N W0 W A n C R) (h : Gat N L W (A j) (C j) g m l) (hj : j < 3) (hk : k < 3) (hjk : j ≠ k) (hL : W0.heap.size ≤ L) (hL' : W.heap.size ≤ L')
    (hfr : ∀ b, b < L' → (Value.slice (A k) (n k) (C k)).ownBlock ≠ some b → W'.heap[b]? = W.heap[b]?) : Gat N L W' (A j) (C j) g m l := by
  have key : ∀ b, g.ownBlock = some b → W'.heap[b]? = W.heap[b]? := fun b hb => by
    refine hfr b (Nat.lt_of_lt_of_le (h.1.lt b hb).2 hL') (fun e => ?_)
    rcases h.2 with rfl | hat
    · have hb' : (Value.slice (A j) (n j) (C j)).ownBlock = some b := by
        cases hA : A j with
        | none => rw [hA] at hb; simp [Value.ownBlock] at hb
        | some a => rw [hA] at hb; simpa [Value.ownBlock] using hb
      rcases hF.sep j k hj hk hjk with hs | hs
      · rw [hs] at hb'; cases hb'
      · exact hs (hb'.trans e.symm)
    · have h1 := (hat.lt b hb).1
      have h2 := hF.old k hk b e
      omega
  exact ⟨own_same h.1 key, h.2.imp id (fun hat => own_same hat key)⟩

end Go.Proofs.YtanlaejdibikiaaGreat
