/-
OverSpans.
-/
import Derived.Test.YtanlaejdibikiaaGreatKept
namespace Go.Proofs.YtanlaejdibikiaaGreat
open Go.RowKit Go.Shelf Sp

/-- A row of cells, its length at least n. -/
def Row (W : World) (B n : Nat) : Prop := ∃ c : Array Value, W.heap[B]? = some (.cells c 31 (0, 0)) ∧ n ≤ c.size
theorem Row.lt {W : World} {B n : Nat} (h : Row W B n) : B < W.heap.size := by obtain ⟨c, h, _⟩ := h; exact (Array.getElem?_eq_some_iff.1 h).1
theorem Row.cell {W : World} {B n j : Nat} (h : Row W B n) (hj : j < n) : ∃ u, W.cell? ⟨B, j, none⟩ = some u := by
  obtain ⟨c, hc, hn⟩ := h
  exact ⟨c[j]'(by omega), by rw [cell_of_row W B j c _ (0, 0) hc]; simp [show j < c.size by omega]⟩
theorem Row.frozen {W : World} {B n : Nat} (h : Row W B n) (j : Nat) : W.frozen? ⟨B, j, none⟩ = false := by
  obtain ⟨c, hc, _⟩ := h
  exact frozen_of_row W B j c _ hc
theorem Row.set {W : World} {B n : Nat} (h : Row W B n) (j : Nat) (u : Value) : Row (W.setCell ⟨B, j, none⟩ u) B n := by
  obtain ⟨c, hc, hn⟩ := h
  exact ⟨_, heap_setCell_same W B j c _ u hc, by simpa using hn⟩
theorem Row.on {W W' : World} {B n : Nat} (h : Row W B n) (hb : Below W.heap.size W W') : Row W' B n := by
  obtain ⟨c, hc, hn⟩ := h
  exact ⟨c, (hb.block B (Array.getElem?_eq_some_iff.1 hc).1).trans hc, hn⟩
theorem grown_setCell (w : World) (b i : Nat) (v : Value) : w.grownBy (w.setCell ⟨b, i, none⟩ v) (some b) := ⟨rfl, rfl, rfl, by simp, fun k _ hk => heap_setCell_other w ⟨b, i, none⟩ k v (fun e => hk (by simp [e]))⟩
theorem grown_weak {W W' : World} {r : Option Nat} (h : W.grownBy W' none) : W.grownBy W' r := ⟨h.os, h.tape, h.output, h.size, fun k hk _ => h.block k hk (by simp)⟩

set_option maxRecDepth 100000 in
set_option maxHeartbeats 8000000 in
theorem OverSpans_any (base : Nat) (v : Value) (l : L) (hl : l.length ≤ 988) (w : World) (h : Lent base w v l) : Calls Tryz.prog 21 #[v] w fun e w' => e = .returned (.tuple #[]) ∧ w.grownBy w' v.ownBlock := by
  obtain ⟨B, cap, rfl, -, hcap, ho⟩ := h
  have HM := Lib.hid (fun (k : Nat) (h1 : k < l.length + 12) W => markSpan_any 2 k (by omega) (by omega) W)
  have hmin : min (cap : Int) ((l.length : Int) + 12) = (l.length : Int) + 12 := by omega
  have HR0 : Hid (Row w B ((l.length + 12) * 2)) := Lib.hid <| by
    rcases ho.2 with ⟨h', _⟩ | ⟨g, cap', cur, h', _, hg, hnc, _, hcs, _⟩
    · simp at h'
    · simp only [Value.slice.injEq, Option.some.injEq, Addr.mk.injEq, and_true, true_and] at h'
      obtain ⟨rfl, rfl⟩ := h'
      exact ⟨cur, hg, by omega⟩
  clear ho
  go_enter Tryz.func21, Tryz.ntmps21
  go_wp2
  go_loopw [3] (fun i wr => ∃ k : Nat, k ≤ l.length + 12 ∧ i = .int .i64 k ∧ Hid (Row wr B ((l.length + 12) * 2)) ∧ Hid (w.grownBy wr (some B))) (fun i _ => l.length + 12 - (intOf i).toNat)
  case atStart => exact ⟨0, by omega, rfl, HR0, Lib.hid ⟨rfl, rfl, rfl, Nat.le_refl _, fun _ _ _ => rfl⟩⟩
  case round =>
    clear HR0
    obtain ⟨k, hk, rfl, HR, HG⟩ := hrel
    by_cases hlt : k < l.length + 12
    · have k9 : (k : Int) < (l.length : Int) + 12 := by omega
      go_wp2_with fail
      refine (HM.out k hlt _).mono ?_
      rintro e w1 ⟨rfl, hb1⟩
      have HR1 := Lib.hid (HR.out.on hb1)
      have HG1 := Lib.hid (HG.out.trans (grown_weak (grown_of_below hb1)))
      clear hb1 HR HG
      obtain ⟨u1, e1⟩ := HR1.out.cell (j := k * 2) (by omega)
      obtain ⟨u2, e2⟩ := HR1.out.cell (j := k * 2 + 1) (by omega)
      have f1 := HR1.out.frozen (k * 2)
      have f2 := HR1.out.frozen (k * 2 + 1)
      have HR2 := Lib.hid ((HR1.out.set (k * 2) (.int .i64 (mk 2 k))).set (k * 2 + 1) (.int .i64 0))
      have HG2 := Lib.hid ((HG1.out.trans (grown_setCell w1 B (k * 2) (.int .i64 (mk 2 k)))).trans (grown_setCell (w1.setCell ⟨B, k * 2, none⟩ (.int .i64 (mk 2 k))) B (k * 2 + 1) (.int .i64 0)))
      go_wp2
      go_roundw
      case rel => exact ⟨k + 1, by omega, by go_num, HR2, HG2⟩
      case measure => simp [intOf]; omega
    · obtain rfl : k = l.length + 12 := by omega
      go_wp2
      go_end0
      exact ⟨rfl, HG.out⟩

end Go.Proofs.YtanlaejdibikiaaGreat
