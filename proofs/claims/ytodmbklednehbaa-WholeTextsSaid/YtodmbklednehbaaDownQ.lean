/-
The iterator 'down' over limbs that the loop's body writes: the indices from the last one on; of the limbs it is said only that they are such.
-/
import Derived.Test.YtodmbklednehbaaDivA
namespace Go.Proofs.Ytodmbklednehbaa
open Go.RowKit Go.Shelf Wh
attribute [local go_sem] Oper.semAt_some

/-- Cells that hold limbs. -/
def U16 (b off n : Nat) (W : World) : Prop := ∀ j, j < n → ∃ u : Nat, W.cell? ⟨b, off + j, none⟩ = some (.int .u16 (u : Int))
/-- What a round keeps: the iterator's box; that the cells hold limbs. -/
def KpQ (Bs b off n : Nat) (W W' : World) : Prop := (∀ v, W.cell? ⟨Bs, 0, none⟩ = some v → W'.cell? ⟨Bs, 0, none⟩ = some v) ∧ (U16 b off n W → U16 b off n W')
theorem KpQ.refl (Bs b off n : Nat) (W : World) : KpQ Bs b off n W W := ⟨fun _ h => h, id⟩
theorem KpQ.trans {Bs b off n : Nat} {A B C : World} (h : KpQ Bs b off n A B) (k : KpQ Bs b off n B C) : KpQ Bs b off n A C := ⟨fun v e => k.1 v (h.1 v e), fun u => k.2 (h.2 u)⟩
theorem KpQ.putObj {Bs b off n : Nat} {w : World} (W : World) (l : Nat) (o o' : Obj) (_ : w.heap.size ≤ l) (h : W.heap[l]? = some o) (h1 : o.isCells = false) (_ : o.isWalk = false) : KpQ Bs b off n W (W.putObj l o') :=
  ⟨fun _ e => cell_kept e (grownBy_putObj' W l o') (fun r er => by cases er; exact ⟨_, h, h1⟩), fun u j hj => let ⟨x, hx⟩ := u j hj; ⟨x, cell_kept hx (grownBy_putObj' W l o') (fun r er => by cases er; exact ⟨_, h, h1⟩)⟩⟩

abbrev Iy (n : Nat) := { p : Nat × Nat // p.1 < n }
def ency (n : Nat) (x : Iy n) : Array Value := #[.int .i64 ((x.1.1 : Nat) : Int), .int .u16 ((x.1.2 : Nat) : Int)]
def Yall (n : Nat) (ys : List (Iy n)) : Prop := ys.map (fun x => x.1.1) = (List.range n).reverse
def Ypre (n : Nat) (pre : List (Iy n)) : Prop := ∃ k, k ≤ n ∧ pre.map (fun x => x.1.1) = (List.range n).reverse.take k

set_option maxRecDepth 100000 in
set_option maxHeartbeats 1000000 in
theorem down2_in (F : Fence) (n : Nat) (hf : F.fn 76) (hro : F.round = none) (hn : 1 ≤ n) (y Bs b off m cap : Nat) (hcap : m ≤ 70368744175616) (J Jx : List (Iy m) → World → Prop)
    (hY : ∀ pre x W, J pre W → pre.length < m → YieldAt F (n - 1) Try.prog y (ency m x) W fun e W' =>
      (e = .returned (.bool true) ∧ J (pre ++ [x]) W' ∧ KpQ Bs b off m W W') ∨ (e = .returned (.bool false) ∧ Jx (pre ++ [x]) W'))
    (W : World) (hBs : W.cell? ⟨Bs, 0, none⟩ = some (.slice (some ⟨b, off, none⟩) m cap)) (hu : U16 b off m W) (h0 : J [] W) :
    CallsIn F n Try.prog 76 #[.func (.yield y) #[] #[], .pointer (some ⟨Bs, 0, none⟩)] W fun e W' => (∃ v, e = .returned v) ∧
      ((∃ ys, Yall m ys ∧ J ys W') ∨ (∃ pre, Ypre m pre ∧ Jx pre W')) := by
  refine callsIn_of_wp Try.func76 rfl hf ?_ hro
  simp only [Try.ntmps76, List.size_toArray, List.length_cons, List.length_nil, Nat.reduceAdd, Nat.reduceSub, Array.replicate_succ, Array.replicate_zero, List.push_toArray, List.append_toArray, List.nil_append, List.cons_append]
  gi_wp2
  gi_loopw [3] (fun i wr => ∃ (j : Nat) (pre : List (Iy m)), j ≤ m ∧ i = .int .i64 ((j : Int) - 1) ∧ pre.map (fun x => x.1.1) = (List.range m).reverse.take (m - j) ∧ J pre wr ∧ KpQ Bs b off m W wr)
    (fun i _ => (intOf i + 1).toNat)
  case atStart => exact ⟨m, [], Nat.le_refl _, rfl, by simp, h0, KpQ.refl _ _ _ _ _⟩
  case round =>
    obtain ⟨j, pre, hj, rfl, hpre, hJs, hnx⟩ := hrel
    have hBx : wr.cell? ⟨Bs, 0, none⟩ = some (.slice (some ⟨b, off, none⟩) m cap) := hnx.1 _ hBs
    have hlen : pre.length = m - j := by have := congrArg List.length hpre; simp at this; omega
    have hux := hnx.2 hu
    cases j with
    | zero =>
      rw [show ((0 : Nat) : Int) - 1 = -1 from rfl]
      have hpre' : pre.map (fun x => x.1.1) = (List.range m).reverse := by
        rw [hpre, List.take_of_length_le (by simp)]
      clear hpre hlen hBs hu hux
      have H := Lib.hid hpre'
      clear hpre'
      gi_wp2
      go_end0
      exact ⟨⟨_, rfl⟩, .inl ⟨pre, H.out, hJs⟩⟩
    | succ k =>
      rw [show ((k + 1 : Nat) : Int) - 1 = (k : Int) from by omega]
      obtain ⟨x, hcx⟩ := hux k (by omega)
      have hlt : k < m := by omega
      obtain ⟨fn, tmps, assign, body, hy, hR⟩ := hY pre ⟨(k, x), hlt⟩ wr hJs (by omega)
      dsimp only [ency] at hy
      have hpre' : (pre ++ [(⟨(k, x), hlt⟩ : Iy m)]).map (fun x => x.1.1) = (List.range m).reverse.take (m - k) := by
        rw [List.map_append, hpre, take_down hj]; rfl
      have H := Lib.hid hpre'
      clear hpre hlen hBs hu hux hpre'
      gi_wp2
      refine hR.mono ?_
      rintro e W3 (⟨rfl, hJ3, hk3⟩ | ⟨rfl, hJx3⟩)
      · gi_wp2
        go_roundw
        case rel => exact ⟨k, _, by omega, by go_num, H.out, hJ3, hnx.trans hk3⟩
        case measure => simp [intOf]
      · gi_wp2
        refine bodyPost_ret (results_none rfl _ _ _) rfl ?_
        exact ⟨⟨_, rfl⟩, .inr ⟨_, ⟨m - k, by omega, H.out⟩, hJx3⟩⟩

theorem down2_stops (F : Fence) (n : Nat) (hf : F.fn 76) (hro : F.round = none) (hn : 1 ≤ n) (Bs b off m cap : Nat) (hm : m ≤ 70368744175616) (w : World) (hBs : Bs < w.heap.size)
    (hc : w.cell? ⟨Bs, 0, none⟩ = some (.slice (some ⟨b, off, none⟩) m cap)) (hb : b < w.heap.size) (hu : U16 b off m w) :
    SeqStopsK F n Try.prog 76 #[.pointer (some ⟨Bs, 0, none⟩)] (ency m) (KpQ Bs b off m) (Yall m) (Ypre m) m w := fun y J Jx W hW _ _ hY h0 =>
  down2_in F n hf hro hn y Bs b off m cap hm J Jx hY W ((hW.cell (p := ⟨Bs, 0, none⟩) hBs).trans hc) (fun j hj => let ⟨x, hx⟩ := hu j hj; ⟨x, (hW.cell (p := ⟨b, off + j, none⟩) hb).trans hx⟩) h0

end Go.Proofs.Ytodmbklednehbaa
