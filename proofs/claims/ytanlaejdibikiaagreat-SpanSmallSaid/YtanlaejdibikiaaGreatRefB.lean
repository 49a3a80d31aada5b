/-
The reference's Set and Make.
-/
import Derived.Test.YtanlaejdibikiaaGreatRef
namespace Go.Proofs.YtanlaejdibikiaaGreat
open Go.RowKit Go.Shelf Sp

/-- The set R of what is marked ahead of day d. -/
structure SI (m : Int → Bool) (d : Nat) (R : L) : Prop where
  set : IsSet R
  mem : ∀ x : Int, memB R x = (decide (0 ≤ x ∧ x < d) && m x)
  last : lastTo (-1) R ≤ d
  cont : 0 < d → m (d - 1) = true → ∃ R' a, R = R' ++ [(a, (d : Int))]
  gap : ¬ (0 < d ∧ m (d - 1) = true) → lastTo (-1) R < d
theorem SI.start (m : Int → Bool) : SI m 0 [] := by
  refine ⟨(by simp [IsSet, Chain]), (fun x => ?_), (by simp [lastTo]), (fun h => absurd h (by omega)), (fun _ => by simp [lastTo])⟩
  rw [memB_nil, decide_eq_false (by omega), Bool.false_and]
theorem SI.skip {m : Int → Bool} {d : Nat} {R : L} (h : SI m d R) (hm : m d = false) : SI m (d + 1) R := by
  have e : ((d + 1 : Nat) : Int) - 1 = d := by omega
  refine ⟨h.set, (fun x => ?_), (by have := h.last; omega), (fun _ hd => ?_), (fun _ => by have := h.last; omega)⟩
  · rw [h.mem]
    by_cases hx : x = d
    · subst hx; rw [hm, Bool.and_false, Bool.and_false]
    · congr 1; apply decide_eq_decide.2; omega
  · rw [e, hm] at hd; cases hd
theorem SI.push {m : Int → Bool} {d : Nat} {R : L} (h : SI m d R) (hd : d < 65536) (hm : m d = true) (hg : ¬ (0 < d ∧ m (d - 1) = true)) : SI m (d + 1) (R ++ [((d : Int), ((d + 1 : Nat) : Int))]) := by
  refine ⟨chain_snoc.2 ⟨h.set, (h.gap hg), (by simp only; omega), (by simp only; omega)⟩, (fun x => ?_), (by rw [lastTo_snoc]; simp), (fun _ _ => ⟨R, d, rfl⟩), (fun hn => ?_)⟩
  · rw [memB_append, memB_one, h.mem]
    by_cases hx : x = d
    · subst hx; rw [hm, Bool.and_true, Bool.and_true, Bool.eq_iff_iff]; simp
    · rw [decide_eq_false (show ¬ ((((d : Int), ((d + 1 : Nat) : Int)) : Int × Int).1 ≤ x ∧ x < (((d : Int), ((d + 1 : Nat) : Int)) : Int × Int).2) from by simp; omega), Bool.or_false]
      congr 1; apply decide_eq_decide.2; omega
  · exact absurd ⟨by omega, by rw [show ((d + 1 : Nat) : Int) - 1 = d from by omega]; exact hm⟩ hn
theorem SI.ext {m : Int → Bool} {d : Nat} {R : L} {a : Int} (h : SI m d (R ++ [(a, (d : Int))])) (hd : d < 65536) (hm : m d = true) : SI m (d + 1) (R ++ [(a, ((d + 1 : Nat) : Int))]) := by
  have hc := chain_snoc.1 h.set
  refine ⟨chain_snoc.2 ⟨hc.1, hc.2.1, (by have := hc.2.2.1; simp at this ⊢; omega), (by simp; omega)⟩, (fun x => ?_), (by rw [lastTo_snoc]; simp), (fun _ _ => ⟨R, a, rfl⟩), (fun hn => ?_)⟩
  · have q := h.mem x
    rw [memB_append, memB_one] at q
    rw [memB_append, memB_one]
    have h3 := hc.2.2.1
    simp only at h3
    by_cases hx : x = d
    · subst hx
      have : memB R d = false := by
        rw [Bool.eq_false_iff, ne_eq, memB_iff]
        intro hh
        have := hc.1.last hh
        have := hc.2.1
        simp only at this
        omega
      rw [hm, this, Bool.and_true, Bool.false_or, Bool.eq_iff_iff]; simp; omega
    · rw [show decide ((0 : Int) ≤ x ∧ x < ((d + 1 : Nat) : Int)) = decide (0 ≤ x ∧ x < (d : Int)) from by apply decide_eq_decide.2; omega, ← q]
      congr 1; apply decide_eq_decide.2; simp only; omega
  · exact absurd ⟨by omega, by rw [show ((d + 1 : Nat) : Int) - 1 = d from by omega]; exact hm⟩ hn
theorem SI.done {m : Int → Bool} {R l : L} (h : SI m 65536 R) (hl : IsSet l) (hm : ∀ d : Int, 0 ≤ d → d < 65536 → m d = memB l d) : R = l := by
  refine set_ext h.set hl fun d => ?_
  rw [← memB_iff, ← memB_iff, h.mem]
  by_cases hd : 0 ≤ d ∧ d < 65536
  · rw [decide_eq_true (by omega), Bool.true_and, hm d hd.1 hd.2]
  · rw [decide_eq_false (by omega), Bool.false_and]
    constructor
    · intro h; cases h
    · intro h
      have hM := (memB_iff _ _).1 h
      have := Chain.lo hl hM
      have := Chain.hi hl hM
      omega

theorem cellsS_to (R : L) (a y y' : Int) : (cellsS (R ++ [(a, y)])).set (R.length * 2 + 1) (.int .i64 y') = cellsS (R ++ [(a, y')]) := by
  rw [cellsS_append, cellsS_append, List.set_append_right _ _ (by rw [cellsS_length]; omega), cellsS_length, show R.length * 2 + 1 - R.length * 2 = 1 from by omega]
  rfl

set_option maxRecDepth 100000 in
set_option maxHeartbeats 8000000 in
theorem Set_ok (g : Nat) (m : Int → Bool) (l : L) (hl : IsSet l) (hm : ∀ d : Int, 0 ≤ d → d < 65536 → m d = memB l d) (w : World) (h : w.rowIs g 4 65536 (fun j => .bool (m j))) :
    Calls Tryz.prog 43 #[.slice (some ⟨g, 0, none⟩) 65536 65536] w (GivesV l w) := by
  have HR := Lib.hid h
  have HL := Lib.hid (fun (R : L) (h : SI m 65536 R) => h.done hl hm)
  have hgw := h.lt
  clear h hm hl
  obtain ⟨i0, hi, hz0, hz1, hz2⟩ := info_parts Tryz.infoS
  go_enter Tryz.func43, Tryz.ntmps43
  go_wp2
  go_loopw [3, 4] (fun lk i wr => ∃ (d : Nat) (R : L), d ≤ 65536 ∧ i = .int .i64 d ∧ Hid (wr.ownsRow w.heap.size 31 2 lk R.length (cellsS R)) ∧ Hid (SI m d R) ∧ Below w.heap.size w wr) (fun _ i _ => 65536 - (intOf i).toNat)
  case atStart => exact ⟨0, [], by omega, rfl, Lib.hid (World.ownsRow_nil _ _ _ _), Lib.hid (SI.start m), Below.refl _ _⟩
  case round =>
    obtain ⟨d, R, hd, rfl, HO, HI, hb⟩ := hrel
    by_cases hlt : d < 65536
    · have c1 := (hb.cell (p := ⟨g, d, none⟩) hgw).trans (HR.out.cell (i := d) hlt)
      have d9 : (d : Int) < 65536 := by omega
      have hlen : R.length ≤ 32768 := HI.out.set.length
      have hgr : g < wr.heap.size := Nat.lt_of_lt_of_le hgw hb.size
      rcases Bool.eq_false_or_eq_true (m d) with hmd | hmd
      · rw [hmd] at c1
        have hpush : ¬ (0 < d ∧ m (d - 1) = true) → Hid (SI m (d + 1) (R ++ [((d : Int), ((d + 1 : Nat) : Int))])) := fun hg => Lib.hid (HI.out.push hlt hmd hg)
        by_cases h0 : 0 < d
        · have c0 := (hb.cell (p := ⟨g, d - 1, none⟩) hgw).trans (HR.out.cell (i := d - 1) (by omega))
          rw [show ((d - 1 : Nat) : Int) = (d : Int) - 1 from by omega] at c0
          have p0 : (0 : Int) < (d : Int) := by omega
          have p1 : (0 : Int) ≤ (d : Int) - 1 := by omega
          have p2 : (d : Int) - 1 < 65536 := by omega
          have p3 : ((d : Int) - 1).toNat = d - 1 := by omega
          rcases Bool.eq_false_or_eq_true (m (d - 1)) with hmp | hmp
          · rw [hmp] at c0
            obtain ⟨R', a, rfl⟩ := HI.out.cont h0 hmp
            have HN : Hid (SI m (d + 1) (R' ++ [(a, (d : Int) + 1)])) := Lib.hid (HI.out.ext hlt hmd)
            rw [List.length_append, List.length_singleton] at HO hlen
            obtain ⟨B, cap, rfl, hBw⟩ : ∃ B cap, u3 = Value.slice (some ⟨B, 0, none⟩) (R'.length + 1) cap ∧ w.heap.size ≤ B := by
              rcases HO.out.2 with ⟨_, hh⟩ | ⟨B, cap, cur, rfl, hB, _⟩
              · omega
              · exact ⟨B, cap, rfl, hB⟩
            obtain ⟨r1, -⟩ := HO.out.stored (R'.length * 2 + 1) (.int .i64 ((d : Int) + 1))
            rw [cellsS_to] at r1
            have HO2 := Lib.hid r1
            have f1 := HO.out.frozenAt (R'.length * 2 + 1)
            have f2 := HO.out.cellAt (R'.length * 2 + 1) (by omega)
            have HB2 := Lib.hid (hb.setCell (p := ⟨B, R'.length * 2 + 1, none⟩) hBw (.int .i64 ((d : Int) + 1)))
            rw [(cellsS_get (R' ++ [(a, (d : Int))]) R'.length (by simp)).2] at f2
            have q1 : ((R'.length + 1 : Nat) : Int) - 1 = (R'.length : Int) := by omega
            have q2 : (R'.length : Int) < ((R'.length + 1 : Nat) : Int) := by omega
            clear r1 hpush hb hmp hmd
            go_wp2
            go_roundw
            case rel => exact ⟨d + 1, R' ++ [(a, ((d : Int) + 1))], by omega, by go_num, by rw [List.length_append, List.length_singleton]; exact HO2, HN, HB2.out⟩
            case measure => simp [intOf]; omega
          · rw [hmp] at c0
            have HPUT := hpush (fun h => by rw [hmp] at h; exact absurd h.2 (by decide))
            have hsz := hb.size
            have HBX := Lib.hid hb
            clear hb hpush hmp hmd
            go_wp2_with (at_builtin; refine wpList_append_own _ rfl _ _ 22 rfl w.heap.size 31 i0 (.agg #[.int .i64 0, .int .i64 0]) 2 16 Tryz.underlying22 hi hz0 hz1 hz2 rfl (by decide) _ _ _ rfl (HO.out.alloc _) ⟨wr.heap.size, 0, none⟩ 1 1 [.int .i64 d, .int .i64 ((d + 1 : Nat) : Int)] rfl rfl (cell_two_new _ _ _ _) (by simp [Value.oneCell']) (by unfold maxLen; omega) (by omega) (by simp; omega) ?_; intro v' w4 hown' hgrow _)
            have HZ := Lib.hid ((HBX.out.alloc HBX.out.size (.cells #[.int .i64 d, .int .i64 ((d + 1 : Nat) : Int)] 31)).grown hgrow (by simp; omega) (fun k e => (HO.out.lt k e).1))
            have HO2 : Hid (w4.ownsRow w.heap.size 31 2 v' (R ++ [((d : Int), ((d + 1 : Nat) : Int))]).length (cellsS (R ++ [((d : Int), ((d + 1 : Nat) : Int))]))) := Lib.hid (by rw [cellsS_append, List.length_append]; exact hown')
            clear hown' hgrow
            go_wp2
            go_roundw
            case rel => exact ⟨d + 1, _, by omega, by go_num, HO2, HPUT, HZ.out⟩
            case measure => simp [intOf]; omega
        · obtain rfl : d = 0 := by omega
          have HPUT := hpush (fun h => absurd h.1 (by omega))
          have hsz := hb.size
          have HBX := Lib.hid hb
          clear hb hpush hmd
          go_wp2_with (at_builtin; refine wpList_append_own _ rfl _ _ 22 rfl w.heap.size 31 i0 (.agg #[.int .i64 0, .int .i64 0]) 2 16 Tryz.underlying22 hi hz0 hz1 hz2 rfl (by decide) _ _ _ rfl (HO.out.alloc _) ⟨wr.heap.size, 0, none⟩ 1 1 [.int .i64 (0 : Nat), .int .i64 ((0 + 1 : Nat) : Int)] rfl rfl (cell_two_new _ _ _ _) (by simp [Value.oneCell']) (by unfold maxLen; omega) (by omega) (by simp; omega) ?_; intro v' w4 hown' hgrow _)
          have HZ := Lib.hid ((HBX.out.alloc HBX.out.size (.cells #[.int .i64 (0 : Nat), .int .i64 ((0 + 1 : Nat) : Int)] 31)).grown hgrow (by simp; omega) (fun k e => (HO.out.lt k e).1))
          have HO2 : Hid (w4.ownsRow w.heap.size 31 2 v' (R ++ [(((0 : Nat) : Int), ((0 + 1 : Nat) : Int))]).length (cellsS (R ++ [(((0 : Nat) : Int), ((0 + 1 : Nat) : Int))]))) := Lib.hid (by rw [cellsS_append, List.length_append]; exact hown')
          clear hown' hgrow
          go_wp2
          go_roundw
          case rel => exact ⟨0 + 1, _, by omega, by go_num, HO2, HPUT, HZ.out⟩
          case measure => simp [intOf]
      · rw [hmd] at c1
        have HN := Lib.hid (HI.out.skip hmd)
        have HBX := Lib.hid hb
        clear hb hmd
        go_wp2
        go_roundw
        case rel => exact ⟨d + 1, R, by omega, by go_num, HO, HN, HBX.out⟩
        case measure => simp [intOf]; omega
    · obtain rfl : d = 65536 := by omega
      obtain rfl := HL.out R HI.out
      have HBX := Lib.hid hb
      clear hb
      go_wp2
      go_ret
      exact ⟨⟨u3, rfl, HO.out⟩, HBX.out⟩

end Go.Proofs.YtanlaejdibikiaaGreat
