/-
ApartSpans of three rows, given flatSpans (a premise here).
-/
import Derived.Test.YtanlaejdibikiaaGreatFlats
namespace Go.Proofs.YtanlaejdibikiaaGreat
open Go.RowKit Go.Shelf Sp

/-- The bag: nothing but the slices of spans. -/
def Bag (W : World) (B : Nat) (x : Value) : Prop := W.heap[B]? = some (.cells #[.slice none 0 0, .slice none 0 0, .slice none 0 0, .slice none 0 0, .slice none 0 0, .slice none 0 0, .slice none 0 0, x, .slice none 0 0, .slice none 0 0, .slice none 0 0, .slice none 0 0, .slice none 0 0, .slice none 0 0, .slice none 0 0, .slice none 0 0, .slice none 0 0, .slice none 0 0, .slice none 0 0, .slice none 0 0, .slice none 0 0, .slice none 0 0, .slice none 0 0] 81 (0, 0))
theorem Bag.lt {W B x} (h : Bag W B x) : B < W.heap.size := (Array.getElem?_eq_some_iff.1 h).1
theorem Bag.on {W W' : World} {B : Nat} {x : Value} (h : Bag W B x) (hb : Below W.heap.size W W') : Bag W' B x := (hb.block B h.lt).trans h
theorem Bag.cell {W B x} (h : Bag W B x) (i : Nat) (hi : i < 23) (h7 : i ≠ 7) : W.cell? ⟨B, i, none⟩ = some (.slice none 0 0) := by
  unfold Bag at h
  match i, hi, h7 with
  | 0, _, _ => simp [World.cell?, h]
  | 1, _, _ => simp [World.cell?, h]
  | 2, _, _ => simp [World.cell?, h]
  | 3, _, _ => simp [World.cell?, h]
  | 4, _, _ => simp [World.cell?, h]
  | 5, _, _ => simp [World.cell?, h]
  | 6, _, _ => simp [World.cell?, h]
  | 8, _, _ => simp [World.cell?, h]
  | 9, _, _ => simp [World.cell?, h]
  | 10, _, _ => simp [World.cell?, h]
  | 11, _, _ => simp [World.cell?, h]
  | 12, _, _ => simp [World.cell?, h]
  | 13, _, _ => simp [World.cell?, h]
  | 14, _, _ => simp [World.cell?, h]
  | 15, _, _ => simp [World.cell?, h]
  | 16, _, _ => simp [World.cell?, h]
  | 17, _, _ => simp [World.cell?, h]
  | 18, _, _ => simp [World.cell?, h]
  | 19, _, _ => simp [World.cell?, h]
  | 20, _, _ => simp [World.cell?, h]
  | 21, _, _ => simp [World.cell?, h]
  | 22, _, _ => simp [World.cell?, h]
  | i + 23, hi, _ => omega
theorem Bag.seven {W B x} (h : Bag W B x) : W.cell? ⟨B, 7, none⟩ = some x := by unfold Bag at h; simp [World.cell?, h]
theorem Bag.free {W B x} (h : Bag W B x) (i : Nat) : W.frozen? ⟨B, i, none⟩ = false := by unfold Bag at h; simp [World.frozen?, h]
theorem Bag.put {W B x} (h : Bag W B x) (y : Value) : Bag (W.setCell ⟨B, 7, none⟩ y) B y := heap_setCell_same W B 7 _ _ y h
theorem Bag.ne {W B x} (h : Bag W B x) {base n k : Nat} {T : TypeId} {v : Value} {xs : List Value} (ho : W.ownsRow base T k v n xs) (hT : T ≠ 81) : v.ownBlock ≠ some B := by
  rcases ho.2 with ⟨rfl, _⟩ | ⟨g, cap, cur, rfl, _, hg, _⟩
  · simp [Value.ownBlock]
  · intro e
    obtain rfl : g = B := by simpa [Value.ownBlock] using e
    unfold Bag at h
    rw [hg] at h
    simp at h
    exact hT h.2
theorem cell_one_new (w : World) (x : Value) (T : TypeId) : ∀ j u, [x][j]? = some u → (w.alloc (.cells #[x] T)).cell? ((⟨w.heap.size, 0, none⟩ : Addr).add j) = some u := by
  intro j u h
  rw [add_eq, Nat.zero_add]
  match j, h with
  | 0, h => simp at h; subst h; simp
theorem grown_set (w : World) (b i : Nat) (v : Value) : w.grownBy (w.setCell ⟨b, i, none⟩ v) (some b) := ⟨rfl, rfl, rfl, by simp, fun k _ hk => heap_setCell_other w ⟨b, i, none⟩ k v (fun e => hk (by simp [e]))⟩
theorem Tryz.infoSpansL : (Tryz.prog.info? 22).map (fun i => (i.zero, i.size, i.bytes)) = some (some (.slice none 0 0), 1, 24) := by kernel_rfl

set_option maxRecDepth 100000 in
set_option maxHeartbeats 4000000 in
theorem putSpans_any (N B k : Nat) (x : Value) (xs : List Value) (a : Option Addr) (n c : Nat) (w : World) (hx : Bag w B x) (ho : w.ownsRow N 22 1 x k xs) (hN : N ≤ B) (hk : k ≤ 10) :
    Calls Tryz.prog 45 #[.pointer (some ⟨B, 0, none⟩), .slice a n c] w fun e w' => e = .returned (.tuple #[]) ∧ (∃ x', Bag w' B x' ∧ w'.ownsRow N 22 1 x' (k + 1) (xs ++ [.slice a n c])) ∧ Below N w w' := by
  obtain ⟨i0, hi, hz0, hz1, hz2⟩ := info_parts Tryz.infoSpansL
  have c7 := hx.seven
  have f7 := hx.free 7
  have hNw : N ≤ w.heap.size := by have := hx.lt; omega
  have hne := hx.ne ho (by decide)
  have HX := Lib.hid hx
  have HO := Lib.hid ho
  clear hx ho
  go_enter Tryz.func45, Tryz.ntmps45
  go_wp2_with (at_builtin; refine wpList_append_own _ rfl _ _ 40 rfl N 22 i0 (.slice none 0 0) 1 24 Tryz.underlying40 hi hz0 hz1 hz2 rfl (by decide) _ _ _ rfl (HO.out.alloc _) ⟨w.heap.size, 0, none⟩ 1 1 [.slice a n c] rfl rfl (cell_one_new _ _ _) (by simp [Value.oneCell']) (by unfold maxLen; omega) (by omega) (by simp; omega) ?_; intro x' w4 hown' hgrow _; obtain ⟨aa, cc, rfl⟩ := own_slice hown'; have hb4 : Bag w4 B x := (hgrow.block B (by have := HX.out.lt; simp; omega) (fun e => hne e.symm)).trans (HX.out.on ((Below.refl w.heap.size w).alloc (Nat.le_refl _) (.cells #[.slice a n c] 22))); have f9 := hb4.free 7; have c9 := hb4.seven; have HX4 := Lib.hid (hb4.put (.slice aa (k + 1) cc)); have HO4 := Lib.hid (hown'.kept (grown_set w4 B 7 (.slice aa (k + 1) cc)) (.inr (hb4.ne hown' (by decide)))); have HB4 := Lib.hid ((((Below.refl N w).alloc hNw (.cells #[.slice a n c] 22)).grown hgrow (by simp; omega) (fun q e => (HO.out.lt q e).1)).setCell (p := ⟨B, 7, none⟩) hN (.slice aa (k + 1) cc)); clear hb4 hown' hgrow)
  go_end0
  exact ⟨rfl, ⟨_, HX4.out, HO4.out⟩, HB4.out⟩

theorem three_on {N : Nat} {W W' : World} {v1 v2 v3 : Value} {l1 l2 l3 : L} (h : Three N W v1 v2 v3 l1 l2 l3) (hb : Below W.heap.size W W') : Three N W' v1 v2 v3 l1 l2 l3 :=
  ⟨h.o1.kept (grown_of_below hb) (Classical.em _), h.o2.kept (grown_of_below hb) (Classical.em _), h.o3.kept (grown_of_below hb) (Classical.em _), h.d12, h.d13, h.d23⟩

/-- What flatSpans answers of three rows that are apart; it writes over them alone. -/
def FlatsThree : Prop := ∀ (N : Nat) (W : World) (v : Value) (v1 v2 v3 : Value) (l1 l2 l3 : L), N ≤ W.heap.size → Three N W v1 v2 v3 l1 l2 l3 → W.ownsRow N 22 1 v 3 [v1, v2, v3] → l1.length ≤ 1000 → l2.length ≤ 1000 → l3.length ≤ 1000 →
  Calls Tryz.prog 64 #[v] W fun e W' => e = .returned (.bool true) ∧ Below N W W' ∧ W.heap.size ≤ W'.heap.size ∧ ∀ k, k < W.heap.size → v1.ownBlock ≠ some k → v2.ownBlock ≠ some k → v3.ownBlock ≠ some k → W'.heap[k]? = W.heap[k]?

end Go.Proofs.YtanlaejdibikiaaGreat
