/-
What is handed in is read, and read again behind the call: numbers of two bytes in a slice; an int; a uint8.
-/
import Derived.Test.YtanlaejdibikiaaGreatPost
import Derived.Test.YtanlaejdibikiaaGreatBuilt
import Derived.SizedLaws
import Derived.Lib.SmallJoins
import Derived.ChangeSlices
namespace Go.Proofs.YtanlaejdibikiaaGreat
open Go.ChangeShapes Go.WideShapes Go.ChangeAt Go.RowKit

theorem Tryz.cellsU : Tryz.prog.cellsOf 110 = 1 := by kernel_rfl
theorem Tryz.bytesU : Tryz.prog.bytesOf 110 = 2 := by kernel_rfl

/-- What a reading weighs is within reach. -/
def Within {H : Type} (t : TypeId) (d : DataW H) : Prop := ∀ n ∈ d.weights Tryz.prog t, n ≤ reachBytes

theorem within_of {H : Type} {ts : List TypeId} {ds : List (DataW H)} (h : (DataW.weightsEach Tryz.prog ts ds).all (· ≤ reachBytes) = true) {j : Nat} {t : TypeId} {d : DataW H} (ht : ts[j]? = some t) (hd : ds[j]? = some d) : Within t d := fun n hn => by
  simpa using List.all_eq_true.1 h _ (DataW.weights_mem_each ht hd n hn)

theorem u16_bd {n : Int} (h : (Lit.int .u16 n).wf = true) : 0 ≤ n ∧ n < 65536 := by
  have e1 : IntKind.min .u16 = 0 := by decide
  have e2 : IntKind.max .u16 = 65535 := by decide
  simp only [Lit.wf, Bool.and_eq_true, decide_eq_true_eq, e1, e2] at h
  omega
theorem i64_bd {n : Int} (h : (Lit.int .i64 n).wf = true) : -9223372036854775808 ≤ n ∧ n ≤ 9223372036854775807 := by
  have e1 : IntKind.min .i64 = -9223372036854775808 := by decide
  have e2 : IntKind.max .i64 = 9223372036854775807 := by decide
  simp only [Lit.wf, Bool.and_eq_true, decide_eq_true_eq, e1, e2] at h
  omega
theorem u8_bd {n : Int} (h : (Lit.int .u8 n).wf = true) : 0 ≤ n ∧ n < 256 := by
  have e1 : IntKind.min .u8 = 0 := by decide
  have e2 : IntKind.max .u8 = 255 := by decide
  simp only [Lit.wf, Bool.and_eq_true, decide_eq_true_eq, e1, e2] at h
  omega

theorem lim_of_ints {W : World} {a : Addr} {len cap : Nat} {zs : List Int} (hl : len ≤ cap) (hm : cap ≤ maxLen) (hz : zs.length = cap) (hr : cap ≤ 70368744175616) (hc : ∀ i, i < zs.length → W.cell? (a.add i) = some (.int .u16 (zs.getD i 0))) (hw : ∀ n ∈ zs, (Lit.int .u16 n).wf = true) :
    Lim W (.slice (some a) len cap) ((zs.take len).map Int.toNat) ∧ Lm ((zs.take len).map Int.toNat) := by
  unfold maxLen at hm
  have hlen : ((zs.take len).map Int.toNat).length = len := by simp; omega
  refine ⟨⟨some a, cap, by rw [hlen], by omega, ⟨by omega, by omega, fun e => by cases e⟩, ?_⟩, ?_⟩
  · rcases Nat.eq_zero_or_pos len with h0 | h0
    · exact .inl (List.eq_nil_of_length_eq_zero (by omega))
    · obtain ⟨b, off, spot⟩ := a
      have hs : spot = none := by simpa [Addr.add] using World.cell?_spot (hc 0 (by omega))
      subst hs
      refine .inr ⟨b, off, rfl, fun j hj => ?_⟩
      have hj' : j < zs.length := by omega
      have c := hc j hj'
      rw [add_eq] at c
      rw [c]
      have e1 : ((zs.take len).map Int.toNat)[j]?.getD 0 = (zs[j]).toNat := by
        rw [List.getElem?_map, List.getElem?_take_of_lt (by omega), List.getElem?_eq_getElem hj']; rfl
      have e2 : zs.getD j 0 = zs[j] := by simp [List.getD, hj']
      have := u16_bd (hw zs[j] (List.getElem_mem hj'))
      rw [e1, e2, Int.toNat_of_nonneg this.1]
  · intro x hx
    obtain ⟨n, hn, rfl⟩ := List.mem_map.1 hx
    have := u16_bd (hw n (List.mem_of_mem_take hn))
    omega

set_option maxRecDepth 100000 in
/-- Numbers that are handed in; they read as they did in every later world. -/
theorem open_u16s {H : Type} {enc : TypeId × Value → H} {W : World} {b0 : Nat} {v : Value} {d : DataW H} {p : List MemPlace} (hv : Value.okWide Tryz.prog W .any b0 109 v)
    (h : DataW.Trod enc Tryz.prog W 0 (fun _ => true) true 109 v d p) (hwt : Within 109 d) :
    ∃ (l : List Nat), Lim W v l ∧ Lm l ∧
      ∀ (W' : World) (sp : Nat → Bool), Below W.heap.size W W' → (∀ q ∈ p, sp q.block = true) → DataW.Trod enc Tryz.prog W' 0 sp true 109 v d p := by
  obtain ⟨va, vn, vc, rfl⟩ := okWide_slice Tryz.underlying109 hv
  obtain ⟨n, t1⟩ := h
  have e0 : (Value.slice va vn vc).cells.toList = [.slice va vn vc] := rfl
  rw [e0] at t1
  rcases open_ints Tryz.underlying109 Tryz.underlying110 Tryz.cellsU t1 with ⟨hcs, hx⟩ | ⟨a, len, cap, zs, hcs, _, hl, hm, hz, hx, hc, hw⟩
  · simp only [List.cons.injEq, and_true] at hcs
    rw [hcs]
    cases hx
    refine ⟨[], Lim.nil W, fun x hx => by simp at hx, fun W' sp _ _ => ⟨1, ?_⟩⟩
    simp [DataW.trod, Value.cells, Tryz.underlying109]
  · simp only [List.cons.injEq, and_true] at hcs
    rw [hcs]
    cases hx
    simp only [if_true] at hz
    have hr : cap ≤ 70368744175616 := by
      have := hwt ((zs.take len).length * 2 + (zs.drop len).length * 2) (by
        simp [DataW.weights, Tryz.underlying109, Tryz.bytesU, lits, Nat.add_mul])
      simp only [List.length_take, List.length_drop, reachBytes] at this
      omega
    obtain ⟨hlim, hlm⟩ := lim_of_ints hl hm hz hr hc hw
    refine ⟨_, hlim, hlm, fun W' sp hb hsp => ⟨2, ?_⟩⟩
    have hz' : zs.length = if sp a.block then cap else len := by
      rcases Nat.eq_zero_or_pos zs.length with h0 | h0
      · split <;> omega
      · have : sp a.block = true := hsp (.cell a.block a.off) (MemPlace.mem_row.2 ⟨0, h0, by simp⟩)
        rw [this]; simpa using hz
    have hc' : ∀ i, i < zs.length → W'.cell? (a.add i) = some (.int .u16 (zs.getD i 0)) := fun i hi => by
      have := hc i hi
      rw [← this]
      exact hb.cell (lt_of_cell this)
    exact shut_ints 0 Tryz.underlying109 Tryz.underlying110 Tryz.cellsU (Nat.zero_le _) hl hm hz' hc' hw

end Go.Proofs.YtanlaejdibikiaaGreat
