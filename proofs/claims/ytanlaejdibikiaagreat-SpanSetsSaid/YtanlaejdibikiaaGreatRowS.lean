/-
What is handed in is read, and read again behind the call: spans in a slice.
-/
import Derived.Deep.SlicePairs
import Derived.Test.YtanlaejdibikiaaGreatRow
namespace Go.Proofs.YtanlaejdibikiaaGreat
open Go.ChangeShapes Go.WideShapes Go.ChangeAt Go.RowKit Sp

theorem Tryz.cellsSpan : Tryz.prog.cellsOf 31 = 2 := by kernel_rfl
theorem Tryz.cellsInt : Tryz.prog.cellsOf 3 = 1 := by kernel_rfl
theorem Tryz.bytesSpan : Tryz.prog.bytesOf 31 = 16 := by kernel_rfl

/-- Every number of a span is an int. -/
def Rng (l : L) : Prop := ∀ s ∈ l, (-9223372036854775808 ≤ s.1 ∧ s.1 ≤ 9223372036854775807) ∧ (-9223372036854775808 ≤ s.2 ∧ s.2 ≤ 9223372036854775807)

set_option maxRecDepth 100000 in
/-- Spans that are handed in; they read as they did in every later world. -/
theorem open_spans {H : Type} {enc : TypeId × Value → H} {W : World} {b0 : Nat} {v : Value} {d : DataW H} {p : List MemPlace} (hv : Value.okWide Tryz.prog W .any b0 22 v)
    (h : DataW.Trod enc Tryz.prog W 0 (fun _ => true) true 22 v d p) (hwt : Within 22 d) :
    ∃ (l : L), Spn W v l ∧ Rng l ∧
      ∀ (W' : World) (sp : Nat → Bool), Below W.heap.size W W' → (∀ q ∈ p, sp q.block = true) → DataW.Trod enc Tryz.prog W' 0 sp true 22 v d p := by
  obtain ⟨va, vn, vc, rfl⟩ := okWide_slice Tryz.underlying22 hv
  obtain ⟨n, t1⟩ := h
  have e0 : (Value.slice va vn vc).cells.toList = [.slice va vn vc] := rfl
  rw [e0] at t1
  rcases Go.Deep.open_slice_pairs Tryz.underlying22 Tryz.underlying31 Tryz.cellsSpan rfl rfl Tryz.cellsInt Tryz.cellsInt t1 with ⟨hcs, hx⟩ | ⟨a, len, cap, m, k, V0, V1, D0, D1, P0, P1, hcs, _, hl, hm, hmm, hx, hall⟩
  · simp only [List.cons.injEq, and_true] at hcs
    rw [hcs]
    cases hx
    refine ⟨[], Spn.nil W, (fun s hs => by simp at hs), fun W' sp _ _ => ⟨1, ?_⟩⟩
    simp [DataW.trod, Value.cells, Tryz.underlying22]
  · simp only [List.cons.injEq, and_true] at hcs
    rw [hcs]
    simp only [if_true] at hmm
    subst hmm
    cases hx
    have hr : m ≤ 8796093022208 := by
      have := hwt ((((List.range len).map fun i => DataW.agg [D0 i, D1 i]).length + ((List.range (m - len)).map fun j => DataW.agg [D0 (len + j), D1 (len + j)]).length) * 16) (by
        simp [DataW.weights, Tryz.underlying22, Tryz.bytesSpan])
      simp only [List.length_map, List.length_range, reachBytes] at this
      omega
    have h0 : ∀ i, i < m → ∃ x : Int, V0 i = .int .i64 x ∧ D0 i = .lit (.int .i64 x) ∧ P0 i = [] ∧ (Lit.int .i64 x).wf = true := fun i hi => by
      obtain ⟨x, h1, h2, h3⟩ := DataW.trod_int Tryz.underlying3 (hall i hi).2.2.1
      simp only [List.cons.injEq, and_true] at h1
      simp only [Prod.mk.injEq] at h2
      exact ⟨x, h1, h2.1, h2.2, h3⟩
    have h1 : ∀ i, i < m → ∃ x : Int, V1 i = .int .i64 x ∧ D1 i = .lit (.int .i64 x) ∧ P1 i = [] ∧ (Lit.int .i64 x).wf = true := fun i hi => by
      obtain ⟨x, h1, h2, h3⟩ := DataW.trod_int Tryz.underlying3 (hall i hi).2.2.2
      simp only [List.cons.injEq, and_true] at h1
      simp only [Prod.mk.injEq] at h2
      exact ⟨x, h1, h2.1, h2.2, h3⟩
    let X : Nat → Int := fun i => match V0 i with | .int _ x => x | _ => 0
    let Y : Nat → Int := fun i => match V1 i with | .int _ x => x | _ => 0
    have hX : ∀ i, i < m → V0 i = .int .i64 (X i) ∧ (Lit.int .i64 (X i)).wf = true := fun i hi => by
      obtain ⟨x, e, _, _, w⟩ := h0 i hi
      have : X i = x := by simp only [X, e]
      rw [this]; exact ⟨e, w⟩
    have hY : ∀ i, i < m → V1 i = .int .i64 (Y i) ∧ (Lit.int .i64 (Y i)).wf = true := fun i hi => by
      obtain ⟨x, e, _, _, w⟩ := h1 i hi
      have : Y i = x := by simp only [Y, e]
      rw [this]; exact ⟨e, w⟩
    have hlen : ((List.range len).map fun i => (X i, Y i)).length = len := by simp
    unfold maxLen at hm
    refine ⟨(List.range len).map fun i => (X i, Y i), ⟨some a, m, by rw [hlen], by omega, ⟨by omega, by omega, fun e => by cases e⟩, ?_⟩, ?_, fun W' sp hb hsp => ?_⟩
    · rcases Nat.eq_zero_or_pos len with hz | hz
      · exact .inl (List.eq_nil_of_length_eq_zero (by omega))
      · obtain ⟨b, off, spot⟩ := a
        have hs : spot = none := by simpa [Addr.add] using World.cell?_spot (hall 0 (by omega)).1
        subst hs
        refine .inr ⟨b, off, rfl, fun j hj => ?_⟩
        rw [hlen] at hj
        have c := hall j (by omega)
        rw [add_eq, add_eq, (hX j (by omega)).1, (hY j (by omega)).1] at c
        have e1 : ((List.range len).map fun i => (X i, Y i))[j]?.getD (0, 0) = (X j, Y j) := by simp [hj]
        rw [e1]
        exact ⟨c.1, by rw [Nat.add_assoc]; exact c.2.1⟩
    · intro s hs
      obtain ⟨i, hi, rfl⟩ := List.mem_map.1 hs
      have hi' := List.mem_range.1 hi
      exact ⟨i64_bd (hX i (by omega)).2, i64_bd (hY i (by omega)).2⟩
    · have zero : ∀ i, i < m → P0 i ++ P1 i = [] := fun i hi => by
        obtain ⟨_, _, _, e, _⟩ := h0 i hi
        obtain ⟨_, _, _, e', _⟩ := h1 i hi
        rw [e, e']; rfl
      rcases Nat.eq_zero_or_pos m with hz | hz
      · subst hz
        obtain rfl : len = 0 := by omega
        by_cases hs : sp a.block = true
        · have := Go.Deep.shut_slice_whole_cells (enc := enc) (w := W') (base := 0) (held := true) (spare := sp) (a := a) (len := 0) (cap := 0) Tryz.underlying22 (Nat.zero_le _) (Nat.le_refl _) (by unfold maxLen; omega) hs (fun i => .agg [D0 i, D1 i]) (fun i => P0 i ++ P1 i) (fun i hi => by omega)
          simpa [DataW.Trod, Value.cells, MemPlace.row] using this
        · have := Go.Deep.shut_slice_cells (enc := enc) (w := W') (base := 0) (held := true) (spare := sp) (a := a) (len := 0) (cap := 0) Tryz.underlying22 (Nat.zero_le _) (Nat.le_refl _) (by unfold maxLen; omega) (by simpa using hs) (fun i => .agg [D0 i, D1 i]) (fun i => P0 i ++ P1 i) (fun i hi => by omega)
          simpa [DataW.Trod, Value.cells, MemPlace.row] using this
      · obtain ⟨b, off, spot⟩ := a
        have hs : spot = none := by simpa [Addr.add] using World.cell?_spot (hall 0 (by omega)).1
        subst hs
        have hsb : sp b = true := hsp (.cell b off) (List.mem_append_left _ (MemPlace.mem_row.2 ⟨0, by omega, by simp⟩))
        refine Go.Deep.shut_slice_pairs_whole (enc := enc) (w := W') (base := 0) (held := true) (spare := sp) Tryz.underlying22 Tryz.underlying31 Tryz.cellsSpan rfl rfl Tryz.cellsInt Tryz.cellsInt (Nat.zero_le _) hl (by unfold maxLen; omega) hsb V0 V1 D0 D1 P0 P1 (fun i hi => ?_) (fun i hi => ?_) (fun i hi => ?_) (fun i hi => ?_)
        · have c := (hall i hi).1
          rw [add_eq] at c
          rw [← c]; exact hb.cell (lt_of_cell c)
        · have c := (hall i hi).2.1
          rw [add_eq, ← Nat.add_assoc] at c
          rw [← c]; exact hb.cell (lt_of_cell c)
        · obtain ⟨x, e, e2, e3, w⟩ := h0 i hi
          rw [e, e2, e3]
          exact ⟨1, trod_int_mk 0 Tryz.underlying3 w⟩
        · obtain ⟨x, e, e2, e3, w⟩ := h1 i hi
          rw [e, e2, e3]
          exact ⟨1, trod_int_mk 0 Tryz.underlying3 w⟩

end Go.Proofs.YtanlaejdibikiaaGreat
