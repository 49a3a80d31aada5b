/-
Three rows that are written over, and lengthened: what stays.
-/
import Derived.Test.YtanlaejdibikiaaGreatAps
namespace Go.Proofs.YtanlaejdibikiaaGreat
open Go.RowKit Go.Shelf Sp

/-- The marks of row k. -/
def mkR (k m : Nat) : L := (List.range m).map fun (i : Nat) => (mk (k : Int) (i : Int), (0 : Int))
theorem mkR_length (k m : Nat) : (mkR k m).length = m := by simp [mkR]
theorem mkR_succ (k m : Nat) : mkR k (m + 1) = mkR k m ++ [(mk k m, 0)] := by simp [mkR, List.range_succ]
theorem mkR_get {k m j : Nat} (h : j < m) : (mkR k m)[j]?.getD (0, 0) = (mk k j, 0) := by simp [mkR, h]
theorem mkR_take {k m n : Nat} (h : n ≤ m) : (mkR k m).take n = mkR k n := by
  unfold mkR
  rw [← List.map_take, List.take_range, Nat.min_eq_left h]

theorem cellsS_take (l : L) (n : Nat) : (cellsS l).take (n * 2) = cellsS (l.take n) := by
  induction l generalizing n with
  | nil => simp [cellsS]
  | cons s t ih =>
    cases n with
    | zero => simp [cellsS]
    | succ n =>
      have := ih n
      rw [show (n + 1) * 2 = n * 2 + 2 from by omega]
      simp only [cellsS, List.flatMap_cons, List.take_succ_cons] at this ⊢
      simpa using this
theorem cellsS_put (l : L) (i : Nat) (x y : Int) (h : i < l.length) : ((cellsS l).set (i * 2) (.int .i64 x)).set (i * 2 + 1) (.int .i64 y) = cellsS (l.set i (x, y)) := by
  induction l generalizing i with
  | nil => simp at h
  | cons s t ih =>
    cases i with
    | zero => simp [cellsS]
    | succ i =>
      have := ih i (by simpa using h)
      rw [show (i + 1) * 2 = i * 2 + 1 + 1 from by omega, show i * 2 + 1 + 1 + 1 = (i * 2 + 1) + 1 + 1 from by omega]
      simp only [cellsS, List.flatMap_cons, List.set_cons_succ] at this ⊢
      simpa using this

/-- A row in place: what is ahead in it is a row too. -/
theorem own_prefix {W : World} {base g n m cap : Nat} {l : L} (h : W.ownsRow base 31 2 (.slice (some ⟨g, 0, none⟩) m cap) m (cellsS l)) (hn : n ≤ m) : W.ownsRow base 31 2 (.slice (some ⟨g, 0, none⟩) n cap) n (cellsS (l.take n)) := by
  have hl : l.length = m := by have := h.1; rw [cellsS_length] at this; omega
  refine ⟨by rw [cellsS_length, List.length_take, Nat.min_eq_left (by omega)], ?_⟩
  rcases h.2 with ⟨h', _⟩ | ⟨g', cap', cur, h', hb, hg, hnc, hcm, hcs, ht⟩
  · simp at h'
  · simp only [Value.slice.injEq, Option.some.injEq, Addr.mk.injEq, and_true, true_and] at h'
    obtain ⟨rfl, rfl⟩ := h'
    refine .inr ⟨g, cap, cur, rfl, hb, hg, by omega, hcm, hcs, ?_⟩
    rw [← cellsS_take, ← ht, List.take_take, Nat.min_eq_left (by omega)]

/-- The rows V k (k < 3), apart from each other, holding R k; what was there else, is there. -/
structure Fs (N : Nat) (W0 W : World) (A : Nat → Option Addr) (n C : Nat → Nat) (R : Nat → L) : Prop where
  row : ∀ k, k < 3 → (R k).length = n k ∧ W.ownsRow N 31 2 (.slice (A k) (n k) (C k)) (n k) (cellsS (R k))
  sep : ∀ i j, i < 3 → j < 3 → i ≠ j → (Value.slice (A i) (n i) (C i)).ownBlock = none ∨ (Value.slice (A i) (n i) (C i)).ownBlock ≠ (Value.slice (A j) (n j) (C j)).ownBlock
  bel : Below N W0 W
  old : ∀ k, k < 3 → ∀ b, (Value.slice (A k) (n k) (C k)).ownBlock = some b → b < W0.heap.size
  fr : ∀ b, b < W0.heap.size → (∀ k, k < 3 → (Value.slice (A k) (n k) (C k)).ownBlock ≠ some b) → W.heap[b]? = W0.heap[b]?
  sz : W0.heap.size ≤ W.heap.size

/-- A new world in which only new blocks have come. -/
theorem Fs.on {N : Nat} {W0 W W' : World} {A : Nat → Option Addr} {n C : Nat → Nat} {R : Nat → L} (h : Fs N W0 W A n C R) (hb : Below W.heap.size W W') (hN : N ≤ W.heap.size) : Fs N W0 W' A n C R where
  row k hk := ⟨(h.row k hk).1, (h.row k hk).2.kept (grown_of_below hb) (Classical.em _)⟩
  sep := h.sep
  bel := h.bel.trans (hb.mono hN)
  old := h.old
  fr b hb1 hb2 := (hb.block b (Nat.lt_of_lt_of_le hb1 h.sz)).trans (h.fr b hb1 hb2)
  sz := Nat.le_trans h.sz hb.size

/-- Row k has changed, and holds l. -/
theorem Fs.change {N : Nat} {W0 W W' : World} {A : Nat → Option Addr} {n C : Nat → Nat} {R : Nat → L} (h : Fs N W0 W A n C R) {k : Nat} (hk : k < 3) {g : Nat} (hA : A k = some ⟨g, 0, none⟩) (hg : W.grownBy W' (some g)) (l : L) (hl : l.length = n k)
    (hrow : W'.ownsRow N 31 2 (.slice (A k) (n k) (C k)) (n k) (cellsS l)) (hNW : N ≤ W.heap.size) : Fs N W0 W' A n C (fun j => if j = k then l else R j) where
  row j hj := by
    by_cases e : j = k
    · subst e; rw [if_pos rfl]; exact ⟨hl, hrow⟩
    · rw [if_neg e]
      refine ⟨(h.row j hj).1, (h.row j hj).2.kept hg ?_⟩
      have := h.sep j k hj hk e
      rw [hA] at this
      exact this
  sep := h.sep
  bel := h.bel.grown hg hNW (fun q e => by
    obtain rfl : g = q := by simpa using e
    have hr := (h.row k hk).2
    rw [hA] at hr
    exact (hr.lt g rfl).1)
  old := h.old
  fr b hb1 hb2 := (hg.block b (Nat.lt_of_lt_of_le hb1 h.sz) (fun e => hb2 k hk (by rw [hA]; exact e.symm))).trans (h.fr b hb1 hb2)
  sz := Nat.le_trans h.sz hg.size

theorem cell_put2 {W : World} {g G o i j : Nat} {x y v : Value} (h : W.cell? ⟨G, o, none⟩ = some v) (hne : G ≠ g) : ((W.setCell ⟨g, i, none⟩ x).setCell ⟨g, j, none⟩ y).cell? ⟨G, o, none⟩ = some v := by
  rw [← h]
  have e : ((W.setCell ⟨g, i, none⟩ x).setCell ⟨g, j, none⟩ y).heap[G]? = W.heap[G]? := (heap_setCell_other _ ⟨g, j, none⟩ G y hne).trans (heap_setCell_other _ ⟨g, i, none⟩ G x hne)
  unfold World.cell?
  simp only [e]
theorem Fs.lsc {N G k : Nat} {W0 W : World} {A : Nat → Option Addr} {n C : Nat → Nat} {R : Nat → L} {v : Value} (h : Fs N W0 W A n C R) (hG : G < W0.heap.size) (hGn : ∀ k, k < 3 → (Value.slice (A k) (n k) (C k)).ownBlock ≠ some G) (hc : W0.cell? ⟨G, k, none⟩ = some v) : W.cell? ⟨G, k, none⟩ = some v := by
  rw [← hc]
  have e := h.fr G hG hGn
  unfold World.cell?
  simp only [e]
theorem Fs.congr {N : Nat} {W0 W : World} {A : Nat → Option Addr} {n C : Nat → Nat} {R R' : Nat → L} (h : Fs N W0 W A n C R) (e : ∀ k, k < 3 → R k = R' k) : Fs N W0 W A n C R' where
  row k hk := by rw [← e k hk]; exact h.row k hk
  sep := h.sep
  bel := h.bel
  old := h.old
  fr := h.fr
  sz := h.sz
/-- The block of a row that is not empty, and its cells. -/
theorem Fs.addr {N : Nat} {W0 W : World} {A : Nat → Option Addr} {n C : Nat → Nat} {R : Nat → L} (h : Fs N W0 W A n C R) {k : Nat} (hk : k < 3) (hn : 0 < n k) : ∃ g, A k = some ⟨g, 0, none⟩ ∧ g < W0.heap.size ∧ n k ≤ C k := by
  rcases (h.row k hk).2.2 with ⟨_, h0⟩ | ⟨g, cap, cur, e, _, _, hc, _⟩
  · omega
  · simp only [Value.slice.injEq, true_and] at e
    refine ⟨g, e.1, h.old k hk g (by rw [e.1]; rfl), by omega⟩

/-- A change in a block that is new since W0: the rows stand. -/
theorem Fs.side {N : Nat} {W0 W W' : World} {A : Nat → Option Addr} {n C : Nat → Nat} {R : Nat → L} (h : Fs N W0 W A n C R) {b : Nat} (hg : W.grownBy W' (some b)) (hb : W0.heap.size ≤ b) (hN : N ≤ W0.heap.size) : Fs N W0 W' A n C R where
  row k hk := by
    refine ⟨(h.row k hk).1, (h.row k hk).2.kept hg ?_⟩
    by_cases e : (Value.slice (A k) (n k) (C k)).ownBlock = some b
    · have := h.old k hk b e; omega
    · exact .inr e
  sep := h.sep
  bel := h.bel.grown hg (Nat.le_trans hN h.sz) (fun q e => by obtain rfl : b = q := (by simpa using e); omega)
  old := h.old
  fr c hc1 hc2 := (hg.block c (Nat.lt_of_lt_of_le hc1 h.sz) (fun e => by obtain rfl : c = b := (by simpa using e); omega)).trans (h.fr c hc1 hc2)
  sz := Nat.le_trans h.sz hg.size

end Go.Proofs.YtanlaejdibikiaaGreat
