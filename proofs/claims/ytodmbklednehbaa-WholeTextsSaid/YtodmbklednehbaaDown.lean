/-
The iterator 'down': from the most significant limb on. Its contract: it hands out all indices with their limbs, from the last one on, or a beginning of these.
-/
import Derived.RangeFuncBox
import Derived.RangeFuncLeaves
import Derived.Shelf.Abstract
import Derived.WalkKit
import Derived.OwnWalkIn
import Derived.TacticsInMore
import Derived.LoopNIn
import Derived.LoopIn
import Derived.WalkSpells
import Derived.Lib.Hide
import Derived.Test.YtodmbklednehbaaProg
import Derived.Test.YtodmbklednehbaaMath
namespace Go.Proofs.Ytodmbklednehbaa
open Go.RowKit Go.Shelf Wh
attribute [local go_sem] Oper.semAt_some

/-- The slice value v holds the limbs l. -/
def Lim (W : World) (v : Value) (l : List Nat) : Prop :=
  ∃ a cap, v = .slice a l.length cap ∧ l.length ≤ cap ∧ (cap ≤ 9223372036854775807 ∧ l.length ≤ 70368744175616 ∧ (a = none → cap = 0)) ∧
    (l = [] ∨ ∃ b off, a = some ⟨b, off, none⟩ ∧ ∀ j, j < l.length → W.cell? ⟨b, off + j, none⟩ = some (.int .u16 ((l[j]?.getD 0 : Nat) : Int)))

theorem Lim.nil (W : World) : Lim W (.slice none 0 0) [] := ⟨none, 0, rfl, by simp, ⟨by omega, by simp, fun _ => rfl⟩, .inl rfl⟩

theorem add_eq (b off j : Nat) : (⟨b, off, none⟩ : Addr).add j = ⟨b, off + j, none⟩ := by
  unfold Addr.add
  by_cases h : j = 0
  · subst h; simp
  · simp [h]

/-- The cells of limbs. -/
def cellsOf (l : List Nat) : List Value := l.map fun (x : Nat) => Value.int .u16 (x : Int)

theorem cellsOf_get (l : List Nat) (j : Nat) (h : j < l.length) : (cellsOf l)[j]? = some (.int .u16 ((l[j]?.getD 0 : Nat) : Int)) := by
  simp [cellsOf, h]

theorem Lim.of_owns {W : World} {base : Nat} {v : Value} {n : Nat} {l : List Nat} (h : W.ownsRow base 22 1 v n (cellsOf l)) (hl : l.length ≤ 70368744175616) : Lim W v l := by
  have hn : l.length = n := by have := h.1; simp [cellsOf] at this; exact this
  subst hn
  rcases h.2 with ⟨rfl, h0⟩ | ⟨g, cap, cur, rfl, hg, hh, hc, hm, hcur, ht⟩
  · have : l = [] := List.eq_nil_of_length_eq_zero h0
    subst this
    exact Lim.nil W
  · unfold maxLen at hm
    refine ⟨_, cap, rfl, hc, ⟨hm, hl, fun e => by cases e⟩, .inr ⟨g, 0, rfl, fun j hj => ?_⟩⟩
    have := h.cells (g := g) rfl j _ (cellsOf_get l j hj)
    rwa [add_eq] at this

theorem lt_of_cell {W : World} {a : Addr} {v : Value} (h : W.cell? a = some v) : a.block < W.heap.size := by
  unfold World.cell? at h
  cases hb : W.heap[a.block]? with
  | none => simp [hb] at h
  | some o => exact (Array.getElem?_eq_some_iff.1 hb).1

theorem Lim.block {W : World} {a : Option Addr} {n cap : Nat} {l : List Nat} (h : Lim W (.slice a n cap) l) (hl : l ≠ []) : ∃ b off, a = some ⟨b, off, none⟩ ∧ b < W.heap.size ∧ ∀ j, j < l.length → W.cell? ⟨b, off + j, none⟩ = some (.int .u16 ((l[j]?.getD 0 : Nat) : Int)) := by
  obtain ⟨a', cap', e, _, _, h⟩ := h
  cases e
  rcases h with h | ⟨b, off, rfl, hc⟩
  · exact absurd h hl
  · exact ⟨b, off, rfl, lt_of_cell (hc 0 (by cases l with | nil => exact absurd rfl hl | cons => simp)), hc⟩

/-- What is there stays, whatever happens to new blocks. -/
theorem Lim.below {W W' : World} {B : Nat} {v : Value} {l : List Nat} (h : Lim W v l) (hB : Below B W W') (hs : W.heap.size ≤ B) : Lim W' v l := by
  obtain ⟨a, cap, rfl, h1, h2, h⟩ := h
  refine ⟨a, cap, rfl, h1, h2, ?_⟩
  rcases h with h | ⟨b, off, rfl, hc⟩
  · exact .inl h
  · exact .inr ⟨b, off, rfl, fun j hj => (hB.cell (p := ⟨b, off + j, none⟩) (Nat.lt_of_lt_of_le (lt_of_cell (hc j hj)) hs)).trans (hc j hj)⟩

theorem take_down {n m : Nat} (h : m + 1 ≤ n) : (List.range n).reverse.take (n - m) = (List.range n).reverse.take (n - (m + 1)) ++ [m] := by
  have e : n - m = (n - (m + 1)) + 1 := by omega
  rw [e, List.take_succ_eq_append_getElem (by simp; omega)]
  congr 1
  simp
  omega

abbrev Ix (l : List Nat) := { i : Nat // i < l.length }
def encs (l : List Nat) (x : Ix l) : Array Value := #[.int .i64 ((x.1 : Nat) : Int), .int .u16 ((l[x.1]?.getD 0 : Nat) : Int)]

/-- What a round of a loop over 'down' keeps: what lies below block n₀, and the iterator's own box. -/
def KpD (n₀ Bs : Nat) (W W' : World) : Prop := Below n₀ W W' ∧ ∀ v, W.cell? ⟨Bs, 0, none⟩ = some v → W'.cell? ⟨Bs, 0, none⟩ = some v
theorem KpD.refl (n₀ Bs : Nat) (W : World) : KpD n₀ Bs W W := ⟨Below.refl _ _, fun _ h => h⟩
theorem KpD.trans {n₀ Bs : Nat} {A B C : World} (h : KpD n₀ Bs A B) (k : KpD n₀ Bs B C) : KpD n₀ Bs A C := ⟨h.1.trans k.1, fun v e => k.2 v (h.2 v e)⟩
theorem KpD.of_below {n₀ Bs M : Nat} {A B : World} (h : Below M A B) (h1 : n₀ ≤ M) (h2 : Bs < M) : KpD n₀ Bs A B := ⟨h.mono h1, fun _ e => (h.cell (p := ⟨Bs, 0, none⟩) h2).trans e⟩
theorem KpD.putObj {n₀ Bs : Nat} {w : World} (hn : n₀ ≤ w.heap.size) (W : World) (l : Nat) (o o' : Obj) (hl : w.heap.size ≤ l) (h : W.heap[l]? = some o) (h1 : o.isCells = false) (h2 : o.isWalk = false) : KpD n₀ Bs W (W.putObj l o') :=
  ⟨belowK_b hn W l o o' hl h h1 h2, fun v e => cell_kept e (grownBy_putObj' W l o') (fun r er => by cases er; exact ⟨_, h, h1⟩)⟩
theorem KpD.setCell {n₀ Bs : Nat} {W : World} {p : Addr} (u : Value) (h1 : n₀ ≤ p.block) (h2 : p.block ≠ Bs) : KpD n₀ Bs W (W.setCell p u) :=
  ⟨(Below.refl _ _).setCell h1 u, fun v e => by
    rw [← e]; exact World.cell?_of_block (Below.heap_setCell W p u Bs (fun e => h2 e.symm))⟩

set_option maxRecDepth 100000 in
set_option maxHeartbeats 1000000 in
theorem down1_in (F : Fence) (n : Nat) (hf : F.fn 76) (hro : F.round = none) (hn : 1 ≤ n) (y Bs n₀ b off cap : Nat) (l : List Nat) (hcap : l.length ≤ 70368744175616) (hb : b < n₀) (J Jx : List (Ix l) → World → Prop)
    (hY : ∀ pre x W, J pre W → pre.length < l.length → YieldAt F (n - 1) Try.prog y (encs l x) W fun e W' =>
      (e = .returned (.bool true) ∧ J (pre ++ [x]) W' ∧ KpD n₀ Bs W W') ∨ (e = .returned (.bool false) ∧ Jx (pre ++ [x]) W'))
    (W : World) (hBs : W.cell? ⟨Bs, 0, none⟩ = some (.slice (some ⟨b, off, none⟩) l.length cap)) (hc : ∀ j, j < l.length → W.cell? ⟨b, off + j, none⟩ = some (.int .u16 ((l[j]?.getD 0 : Nat) : Int))) (h0 : J [] W) :
    CallsIn F n Try.prog 76 #[.func (.yield y) #[] #[], .pointer (some ⟨Bs, 0, none⟩)] W fun e W' => (∃ v, e = .returned v) ∧
      ((∃ ys, ys.map Subtype.val = (List.range l.length).reverse ∧ J ys W') ∨ (∃ pre, (∃ k, k ≤ l.length ∧ pre.map Subtype.val = (List.range l.length).reverse.take k) ∧ Jx pre W')) := by
  refine callsIn_of_wp Try.func76 rfl hf ?_ hro
  simp only [Try.ntmps76, List.size_toArray, List.length_cons, List.length_nil, Nat.reduceAdd, Nat.reduceSub, Array.replicate_succ, Array.replicate_zero, List.push_toArray, List.append_toArray, List.nil_append, List.cons_append]
  gi_wp2
  gi_loopw [3] (fun i wr => ∃ (j : Nat) (pre : List (Ix l)), j ≤ l.length ∧ i = .int .i64 ((j : Int) - 1) ∧ pre.map Subtype.val = (List.range l.length).reverse.take (l.length - j) ∧ J pre wr ∧ KpD n₀ Bs W wr)
    (fun i _ => (intOf i + 1).toNat)
  case atStart => exact ⟨l.length, [], Nat.le_refl _, rfl, by simp, h0, KpD.refl _ _ _⟩
  case round =>
    obtain ⟨j, pre, hj, rfl, hpre, hJs, hnx⟩ := hrel
    have hBx : wr.cell? ⟨Bs, 0, none⟩ = some (.slice (some ⟨b, off, none⟩) l.length cap) := hnx.2 _ hBs
    have hlen : pre.length = l.length - j := by have := congrArg List.length hpre; simp at this; omega
    cases j with
    | zero =>
      rw [show ((0 : Nat) : Int) - 1 = -1 from rfl]
      have hpre' : pre.map Subtype.val = (List.range l.length).reverse := by
        rw [hpre, List.take_of_length_le (by simp)]
      clear hpre hlen hBs hc
      have H := Lib.hid hpre'
      clear hpre'
      gi_wp2
      go_end0
      exact ⟨⟨_, rfl⟩, .inl ⟨pre, H.out, hJs⟩⟩
    | succ m =>
      rw [show ((m + 1 : Nat) : Int) - 1 = (m : Int) from by omega]
      have hcx : wr.cell? ⟨b, off + m, none⟩ = some (.int .u16 ((l[m]?.getD 0 : Nat) : Int)) := (hnx.1.cell (p := ⟨b, off + m, none⟩) hb).trans (hc m (by omega))
      obtain ⟨fn, tmps, assign, body, hy, hR⟩ := hY pre ⟨m, by omega⟩ wr hJs (by omega)
      dsimp only [encs] at hy
      have hlt : m < l.length := by omega
      have hpre' : (pre ++ [(⟨m, hlt⟩ : Ix l)]).map Subtype.val = (List.range l.length).reverse.take (l.length - m) := by
        rw [List.map_append, hpre, take_down hj]; rfl
      have H := Lib.hid hpre'
      obtain ⟨x, hx⟩ : ∃ x : Nat, x = l[m]?.getD 0 := ⟨_, rfl⟩
      rw [← hx] at hcx hy
      clear hpre hlen hBs hc hpre' hx
      gi_wp2
      refine hR.mono ?_
      rintro e W3 (⟨rfl, hJ3, hk3⟩ | ⟨rfl, hJx3⟩)
      · gi_wp2
        go_roundw
        case rel => exact ⟨m, _, by omega, by go_num, H.out, hJ3, hnx.trans hk3⟩
        case measure => simp [intOf]
      · gi_wp2
        refine bodyPost_ret (results_none rfl _ _ _) rfl ?_
        exact ⟨⟨_, rfl⟩, .inr ⟨_, ⟨l.length - m, by omega, H.out⟩, hJx3⟩⟩

set_option maxRecDepth 100000 in
set_option maxHeartbeats 1000000 in
theorem down1_nil_in (F : Fence) (n : Nat) (hf : F.fn 76) (hro : F.round = none) (y Bs cap : Nat) (a : Option Addr) (l : List Nat) (J : List (Ix l) → World → Prop) (W : World) (hBs : W.cell? ⟨Bs, 0, none⟩ = some (.slice a 0 cap)) (h0 : J [] W) :
    CallsIn F n Try.prog 76 #[.func (.yield y) #[] #[], .pointer (some ⟨Bs, 0, none⟩)] W fun e W' => (∃ v, e = .returned v) ∧ J [] W' := by
  refine callsIn_of_wp Try.func76 rfl hf ?_ hro
  simp only [Try.ntmps76, List.size_toArray, List.length_cons, List.length_nil, Nat.reduceAdd, Nat.reduceSub, Array.replicate_succ, Array.replicate_zero, List.push_toArray, List.append_toArray, List.nil_append, List.cons_append]
  gi_wp2
  gi_loopw [3] (fun i wr => i = .int .i64 (-1) ∧ J [] wr) (fun _ _ => 0)
  case atStart => exact ⟨rfl, h0⟩
  case round =>
    obtain ⟨rfl, hJs⟩ := hrel
    gi_wp2
    go_end0
    exact ⟨⟨_, rfl⟩, hJs⟩

set_option maxHeartbeats 1000000 in
/-- 'down' boxes the slice; the function value captures the box. -/
theorem down_in (F : Fence) (n : Nat) (hf : F.fn 68) (hro : F.round = none) (v : Value) (a : Option Addr) (len cap : Nat) (hv : v = .slice a len cap) (w : World) :
    CallsIn F n Try.prog 68 #[v] w fun e w' => e = .returned (.func (.func 76) #[] #[.pointer (some ⟨w.heap.size, 0, none⟩)]) ∧ w.alloc (.cells #[v] 24) = w' := by
  subst hv
  refine callsIn_of_wp Try.func68 rfl hf ?_ hro
  simp only [Try.ntmps68, List.size_toArray, List.length_cons, List.length_nil, Nat.reduceAdd, Nat.reduceSub, Array.replicate_succ, Array.replicate_zero, List.push_toArray, List.append_toArray, List.nil_append, List.cons_append]
  gi_wp2
  go_ret
  exact ⟨rfl, rfl⟩

/-- All indices from the last one on. -/
def Sall (l : List Nat) (ys : List (Ix l)) : Prop := ys.map Subtype.val = (List.range l.length).reverse
def Spre (l : List Nat) (pre : List (Ix l)) : Prop := ∃ k, k ≤ l.length ∧ pre.map Subtype.val = (List.range l.length).reverse.take k

theorem down_stops (F : Fence) (n : Nat) (hf : F.fn 76) (hro : F.round = none) (hn : 1 ≤ n) (Bs n₀ : Nat) (sv : Value) (l : List Nat) (w : World) (hBs : Bs < w.heap.size) (hn₀ : n₀ ≤ w.heap.size)
    (hc : w.cell? ⟨Bs, 0, none⟩ = some sv) (wl : World) (hl : Lim wl sv l) (hwl : wl.heap.size ≤ n₀) (hbl : Below wl.heap.size wl w) :
    SeqStopsK F n Try.prog 76 #[.pointer (some ⟨Bs, 0, none⟩)] (encs l) (KpD n₀ Bs) (Sall l) (Spre l) l.length w := fun y J Jx W hW _ _ hY h0 => by
  have hc' := (hW.cell (p := ⟨Bs, 0, none⟩) hBs).trans hc
  obtain ⟨a, cap, rfl, h1, h2, h⟩ := hl
  rcases h with rfl | ⟨b, off, rfl, hcs⟩
  · exact (down1_nil_in F n hf hro y Bs cap a [] J W hc' h0).mono fun e W' ⟨he, hj⟩ => ⟨he, .inl ⟨[], by simp [Sall], hj⟩⟩
  · by_cases h0l : l = []
    · subst h0l
      exact (down1_nil_in F n hf hro y Bs cap _ [] J W hc' h0).mono fun e W' ⟨he, hj⟩ => ⟨he, .inl ⟨[], by simp [Sall], hj⟩⟩
    · have hb : b < wl.heap.size := lt_of_cell (hcs 0 (by cases l with | nil => exact absurd rfl h0l | cons => simp))
      exact down1_in F n hf hro hn y Bs n₀ b off cap l h2.2.1 (by omega) J Jx hY W hc'
        (fun j hj => ((hW.cell (p := ⟨b, off + j, none⟩) (show b < _ by omega)).trans (hbl.cell (p := ⟨b, off + j, none⟩) hb)).trans (hcs j hj)) h0

end Go.Proofs.Ytodmbklednehbaa
