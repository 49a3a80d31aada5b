/-
'SpanSmall': the sets of six days.
-/
import Derived.Test.YtanlaejdibikiaaGreatBuilt
import Derived.Test.YtanlaejdibikiaaGreatFlat3
import Derived.Test.YtanlaejdibikiaaGreatMakes
import Derived.Test.YtanlaejdibikiaaGreatAsks
namespace Go.Proofs.YtanlaejdibikiaaGreat
open Go.RowKit Go.Shelf Sp

/-- A row of at most six spans. -/
def Six (w : World) (e : Ending) (w' : World) : Prop := (∃ v l, e = .returned v ∧ (l : L).length ≤ 6 ∧ w'.ownsRow w.heap.size 31 2 v l.length (cellsS l)) ∧ Below w.heap.size w w'

theorem cellsS_put1 (l : L) (i : Nat) (z : Int) (h : i < l.length) : (cellsS l).set (i * 2 + 1) (.int .i64 z) = cellsS (l.set i ((l[i]?.getD (0, 0)).1, z)) := by
  rw [← cellsS_put _ _ _ _ h]
  obtain ⟨x1, _⟩ := cellsS_get l i h
  obtain ⟨hlt, hx⟩ := List.getElem?_eq_some_iff.1 x1
  rw [← hx, List.set_getElem_self]

set_option maxRecDepth 100000 in
set_option maxHeartbeats 4000000 in
theorem days_any (bits fr : Int) (hbits : 0 ≤ bits ∧ bits < 64) (hf : 0 ≤ fr ∧ fr ≤ 65530) (w : World) :
    Calls Tryz.prog 8 #[.int .i64 bits, .int .i64 fr] w (Six w) := by
  obtain ⟨i0, hi, hz0, hz1, hz2⟩ := info_parts Tryz.infoS
  obtain ⟨hb0, hb1⟩ := hbits
  obtain ⟨hf0, hf1⟩ := hf
  go_enter Tryz.func8, Tryz.ntmps8
  go_wp2_with fail
  go_loopw [5, 6] (fun o i wr => ∃ (b : L) (k : Nat), k ≤ 6 ∧ i = .int .i64 k ∧ b.length ≤ k ∧ Hid (wr.ownsRow w.heap.size 31 2 o b.length (cellsS b)) ∧ Below w.heap.size w wr) (fun _ i _ => 6 - (intOf i).toNat)
  case atStart => exact ⟨[], 0, by omega, rfl, by simp, Lib.hid (World.ownsRow_nil _ _ _ _), Below.refl _ _⟩
  case round =>
    obtain ⟨b, k, hk, rfl, hbl, HO, hb⟩ := hrel
    by_cases h6 : k < 6
    · have i1 : (k : Int) < 6 := by omega
      have hbr : w.heap.size ≤ wr.heap.size := hb.size
      obtain ⟨a5, c5, rfl⟩ := own_slice HO.out
      have HAPP := Lib.hid (fun (w1 : World) (h1 : Below wr.heap.size wr w1) => show w1.ownsRow w.heap.size 31 2 (.slice a5 b.length c5) b.length (cellsS b) ∧ Below w.heap.size w w1 ∧ w.heap.size ≤ w1.heap.size from ⟨HO.out.kept (grown_of_below h1) (Classical.em _), hb.trans (h1.mono hbr), (hb.trans (h1.mono hbr)).size⟩)
      by_cases hne : b.length = 0
      · have HL := Lib.hid hne
        rw [hne] at HAPP
        go_wp2_with fail
        · go_roundw
          case rel => exact ⟨b, k + 1, by omega, by go_num, by omega, HO, hb⟩
          case measure => simp [intOf]; omega
        · refine (to_any _ _ _).mono ?_
          rintro e w1 ⟨rfl, hb1⟩
          obtain ⟨hown1, hB1, hz1'⟩ := HAPP.out w1 hb1
          obtain ⟨f, hf⟩ : ∃ f, fr + (k : Int) = f := ⟨_, rfl⟩
          rw [hf]
          have HOW := Lib.hid hown1
          have HB1 := Lib.hid hB1
          clear hb1 hown1 hB1 hf HAPP hb
          go_wp2_with (at_builtin; refine wpList_append_own _ rfl _ _ 22 rfl w.heap.size 31 i0 (.agg #[.int .i64 0, .int .i64 0]) 2 16 Tryz.underlying22 hi hz0 hz1 hz2 rfl (by decide) _ _ _ rfl (HOW.out.alloc _) ⟨w1.heap.size, 0, none⟩ 1 1 [.int .i64 f, .int .i64 (f + 1)] rfl rfl (cell_two_new _ _ _ _) (by simp [Value.oneCell']) (by unfold maxLen; omega) (by omega) (by simp; omega) ?_; intro v' w4 hown' hgrow _)
          have HE := Lib.hid ((HB1.out.alloc hz1' (.cells #[.int .i64 f, .int .i64 (f + 1)] 31)).grown hgrow (by simp; omega) (fun k e => (HOW.out.lt k e).1))
          have HN : Hid (w4.ownsRow w.heap.size 31 2 v' (b ++ [(f, f + 1)]).length (cellsS (b ++ [(f, f + 1)]))) := Lib.hid (by rw [cellsS_append, List.length_append]; exact by rw [HL.out]; exact hown')
          clear hown' hgrow
          go_wp2
          go_roundw
          case rel => exact ⟨b ++ [(f, f + 1)], k + 1, by omega, by go_num, by simp; omega, HN, HE.out⟩
          case measure => simp [intOf]; omega
      · have hpos : 0 < b.length := by omega
        obtain ⟨g, rfl⟩ : ∃ g, a5 = some ⟨g, 0, none⟩ := by
          rcases HO.out.2 with ⟨_, h0⟩ | ⟨g, cap, cur, e, _⟩
          · omega
          · simp only [Value.slice.injEq] at e; exact ⟨g, e.1⟩
        obtain ⟨x1, x2⟩ := cellsS_get b (b.length - 1) (by omega)
        obtain ⟨y, hy⟩ : ∃ y, y = (b[b.length - 1]?.getD (0, 0)).2 := ⟨_, rfl⟩
        have e2 := (HO.out.cellAt ((b.length - 1) * 2 + 1) (by omega)).trans x2
        have f2 := HO.out.frozenAt ((b.length - 1) * 2 + 1)
        rw [← hy] at e2
        clear x1 x2 hy hne
        go_wp2_with fail
        · go_roundw
          case rel => exact ⟨b, k + 1, by omega, by go_num, by omega, HO, hb⟩
          case measure => simp [intOf]; omega
        · have hs := (HO.out.stored ((b.length - 1) * 2 + 1) (.int .i64 (wrap64 (y + 1)))).1
          rw [cellsS_put1 _ _ _ (by omega)] at hs
          refine ⟨⟨b.set (b.length - 1) ((b[b.length - 1]?.getD (0, 0)).1, wrap64 (y + 1)), k + 1, by omega, by go_num, by rw [List.length_set]; omega, Lib.hid (by rw [List.length_set]; exact hs), hb.setCell (p := ⟨g, (b.length - 1) * 2 + 1, none⟩) (HO.out.lt g rfl).1 _⟩, by simp [intOf]; omega⟩
        · refine (to_any _ _ _).mono ?_
          rintro e w1 ⟨rfl, hb1⟩
          obtain ⟨hown1, hB1, hz1'⟩ := HAPP.out w1 hb1
          obtain ⟨f, hf⟩ : ∃ f, fr + (k : Int) = f := ⟨_, rfl⟩
          rw [hf]
          have HOW := Lib.hid hown1
          have HB1 := Lib.hid hB1
          clear hb1 hown1 hB1 hf HAPP hb
          go_wp2_with (at_builtin; refine wpList_append_own _ rfl _ _ 22 rfl w.heap.size 31 i0 (.agg #[.int .i64 0, .int .i64 0]) 2 16 Tryz.underlying22 hi hz0 hz1 hz2 rfl (by decide) _ _ _ rfl (HOW.out.alloc _) ⟨w1.heap.size, 0, none⟩ 1 1 [.int .i64 f, .int .i64 (f + 1)] rfl rfl (cell_two_new _ _ _ _) (by simp [Value.oneCell']) (by unfold maxLen; omega) (by omega) (by simp; omega) ?_; intro v' w4 hown' hgrow _)
          have HE := Lib.hid ((HB1.out.alloc hz1' (.cells #[.int .i64 f, .int .i64 (f + 1)] 31)).grown hgrow (by simp; omega) (fun k e => (HOW.out.lt k e).1))
          have HN : Hid (w4.ownsRow w.heap.size 31 2 v' (b ++ [(f, f + 1)]).length (cellsS (b ++ [(f, f + 1)]))) := Lib.hid (by rw [cellsS_append, List.length_append]; exact hown')
          clear hown' hgrow
          go_wp2
          go_roundw
          case rel => exact ⟨b ++ [(f, f + 1)], k + 1, by omega, by go_num, by simp; omega, HN, HE.out⟩
          case measure => simp [intOf]; omega
    · have i1 : ¬ (k : Int) < 6 := by omega
      go_wp2_with fail
      go_ret
      exact ⟨⟨_, b, rfl, by omega, HO.out⟩, hb⟩

end Go.Proofs.YtanlaejdibikiaaGreat
