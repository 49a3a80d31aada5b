/-
The reference's Right, Marks, Set and Make.
-/
import Derived.Laws.OwnMore
import Derived.Deep.OwnRows
import Derived.Test.YtanlaejdibikiaaGreatGather
namespace Go.Proofs.YtanlaejdibikiaaGreat
open Go.RowKit Go.Shelf Sp

set_option maxHeartbeats 1000000 in
theorem Right_any (x y : Int) (w : World) : Calls Tryz.prog 52 #[.agg #[.int .i64 x, .int .i64 y]] w (Says (.bool (okB x y)) w) := by
  rcases Bool.eq_false_or_eq_true (okB x y) with h | h
  · rw [h]
    rw [okB_iff] at h
    obtain ⟨h1, h2, h3⟩ := h
    go_enter Tryz.func52, Tryz.ntmps52
    go_wp2
    go_ret
    exact ⟨rfl, (Below.refl _ _).alloc (Nat.le_refl _) _⟩
  · rw [h]
    rw [okB_not] at h
    by_cases h1 : 0 ≤ x
    · by_cases h2 : x ≤ y
      · have h3 : ¬ y ≤ 65536 := by omega
        clear h
        go_enter Tryz.func52, Tryz.ntmps52
        go_wp2
        go_ret
        exact ⟨rfl, (Below.refl _ _).alloc (Nat.le_refl _) _⟩
      · clear h
        go_enter Tryz.func52, Tryz.ntmps52
        go_wp2
        go_ret
        exact ⟨rfl, (Below.refl _ _).alloc (Nat.le_refl _) _⟩
    · clear h
      go_enter Tryz.func52, Tryz.ntmps52
      go_wp2
      go_ret
      exact ⟨rfl, (Below.refl _ _).alloc (Nat.le_refl _) _⟩

theorem Tryz.infoBool : (Tryz.prog.info? 4).map (fun i => (i.zero, i.size, i.bytes)) = some (some (.bool false), 1, 1) := by kernel_rfl

/-- A row of bools that make has made. -/
theorem rowIs_made_owns {W : World} {base g n : Nat} {T : TypeId} (h : W.ownsRow base T 1 (.slice (some ⟨g, 0, none⟩) n n) n (madeCells (Value.bool false).cells (n * 1)).toList) :
    W.rowIs g T n (fun _ => .bool false) ∧ base ≤ g := by
  rcases h.2 with ⟨h', _⟩ | ⟨g', cap, cur, h', hb, hg, hnc, hcm, hcs, ht⟩
  · simp at h'
  · simp only [Value.slice.injEq, Option.some.injEq, Addr.mk.injEq, and_true, true_and] at h'
    obtain ⟨rfl, rfl⟩ := h'
    refine ⟨⟨cur, hg, by omega, fun i hi => ?_⟩, hb⟩
    rw [List.take_of_length_le (by rw [Array.length_toList]; omega)] at ht
    rw [← Array.getElem?_toList, ht, show (Value.bool false).cells = #[.bool false] from rfl]
    simp [madeCells, hi, Nat.mod_one]

theorem memB_append (a b : L) (d : Int) : memB (a ++ b) d = (memB a d || memB b d) := by rw [Bool.eq_iff_iff]; simp [memB_iff, mem_append]
theorem memB_one (s : Int × Int) (d : Int) : memB [s] d = decide (s.1 ≤ d ∧ d < s.2) := by rw [memB_cons, memB_nil, Bool.or_false]

set_option maxRecDepth 100000 in
set_option maxHeartbeats 4000000 in
theorem Marks_ok (v : Value) (l : L) (hl : AllOk l) (w : World) (h : Spn w v l) : Calls Tryz.prog 42 #[v] w fun e w' =>
    (∃ b, w.heap.size ≤ b ∧ e = .returned (.slice (some ⟨b, 0, none⟩) 65536 65536) ∧ w'.rowIs b 4 65536 (fun j => .bool (memB l j))) ∧ Below w.heap.size w w' := by
  have h' := h
  obtain ⟨a, cap, rfl, hlc, ⟨hcm, hcl, hcn⟩, hcs⟩ := h'
  clear hcn hcs
  have HS := Lib.hid h
  have HL := Lib.hid hl
  clear h hl
  obtain ⟨i0, hi, hz0, hz1, hz2⟩ := info_parts Tryz.infoBool
  go_enter Tryz.func42, Tryz.ntmps42
  go_wp2_with (at_make; refine wpList_make_full _ rfl _ _ 52 rfl w.heap.size 4 i0 (.bool false) 1 Tryz.underlying52 hi hz0 hz1 _ _ _ _ 65536 rfl rfl rfl rfl (by rw [hz2]; omega) (by unfold maxLen; omega) (Nat.le_refl _) ?_; intro w1 hown hgrow)
  obtain ⟨hrow, -⟩ := rowIs_made_owns hown
  have hB1 := (Below.refl w.heap.size w).grown hgrow (Nat.le_refl _) (fun k e => by cases e)
  clear hown hgrow
  obtain ⟨g, hg⟩ : ∃ g, w.heap.size = g := ⟨_, rfl⟩
  have HG := Lib.hid hg
  rw [hg] at hrow
  have HR := Lib.hid (show w1.rowIs g 4 65536 (fun j => .bool (memB (l.take 0) j)) from hrow.congr fun i _ => by rw [List.take_zero, memB_nil])
  have HB1 := Lib.hid hB1
  clear hrow hB1
  try rw [hg]
  clear hg
  go_loopw [4] (fun i wr => ∃ k : Nat, k ≤ l.length ∧ i = .int .i64 k ∧ Hid (wr.rowIs g 4 65536 (fun j => .bool (memB (l.take k) j))) ∧ Below w.heap.size w wr) (fun i _ => l.length - (intOf i).toNat)
  case atStart => exact ⟨0, Nat.zero_le _, rfl, HR, HB1.out⟩
  case round =>
    obtain ⟨k, hk, rfl, HK, hb⟩ := hrel
    by_cases hlt : k < l.length
    · have hne : l ≠ [] := by intro e; rw [e] at hlt; simp at hlt
      obtain ⟨b, off, rfl, hbw, hc⟩ := HS.out.block hne
      have hok := HL.out (l[k]) (List.getElem_mem hlt)
      rw [← getD_eq hlt] at hok
      have HT := Lib.hid (memB_take hlt)
      have hc1 := (hc k hlt).1
      have hc2 := (hc k hlt).2
      obtain ⟨x, hx⟩ : ∃ x, x = (l[k]?.getD (0, 0)).1 := ⟨_, rfl⟩
      obtain ⟨y, hy⟩ : ∃ y, y = (l[k]?.getD (0, 0)).2 := ⟨_, rfl⟩
      rw [← hx] at hc1 hok HT
      rw [← hy] at hc2 hok HT
      clear hx hy hc
      obtain ⟨o1, o2, o3⟩ := (okB_iff _ _).1 hok
      clear hok
      obtain ⟨X, rfl⟩ : ∃ X : Nat, x = X := ⟨x.toNat, by omega⟩
      obtain ⟨Y, rfl⟩ : ∃ Y : Nat, y = Y := ⟨y.toNat, by omega⟩
      have c1 := (hb.cell (p := ⟨b, off + k * 2, none⟩) hbw).trans hc1
      have hbwr : b < wr.heap.size := Nat.lt_of_lt_of_le hbw hb.size
      have HBR := Lib.hid hb
      clear hb
      go_wp2_with fail
      go_loopw [5] (fun i wx => ∃ j : Nat, X ≤ j ∧ j ≤ Y ∧ i = .int .i64 j ∧ Hid (wx.rowIs g 4 65536 (fun t => .bool (memB (l.take k) t || decide ((X : Int) ≤ t ∧ (t : Int) < j)))) ∧ Below w.heap.size w wx) (fun i _ => Y - (intOf i).toNat)
      case atStart => exact ⟨X, by omega, by omega, rfl, Lib.hid (HK.out.congr fun i _ => by rw [show decide ((X : Int) ≤ (i : Int) ∧ (i : Int) < (X : Int)) = false from decide_eq_false (by omega), Bool.or_false]), HBR.out⟩
      case round =>
        obtain ⟨j, hj1, hj2, rfl, HJ, hbx⟩ := hrel
        have c2 := (hbx.cell (p := ⟨b, off + k * 2 + 1, none⟩) hbw).trans hc2
        by_cases hjy : j < Y
        · have f1 := HJ.out.frozen j
          have f2 := HJ.out.cell (i := j) (by omega)
          have HN : Hid ((_ : World).rowIs g 4 65536 (fun t => .bool (memB (l.take k) t || decide ((X : Int) ≤ t ∧ (t : Int) < ((j + 1 : Nat) : Int))))) := Lib.hid ((HJ.out.set j (.bool true)).congr fun t _ => by
            by_cases e : t = j
            · subst e; rw [if_pos rfl, decide_eq_true (show (X : Int) ≤ (t : Int) ∧ (t : Int) < ((t + 1 : Nat) : Int) from by omega), Bool.or_true]
            · rw [if_neg e]; congr 2; apply decide_eq_decide.2; omega)
          have HB2 := Lib.hid (hbx.setCell (p := ⟨g, j, none⟩) (by rw [HG.out]; exact Nat.le_refl _) (.bool true))
          clear hbx
          have j9 : (j : Int) < 65536 := by omega
          have j8 : (j : Int) < (Y : Int) := by omega
          go_wp2
          go_roundw
          case rel => exact ⟨j + 1, by omega, by omega, by go_num, HN, HB2.out⟩
          case measure => simp [intOf]; omega
        · obtain rfl : j = Y := by omega
          have HN : Hid ((_ : World).rowIs g 4 65536 (fun t => .bool (memB (l.take (k + 1)) t))) := Lib.hid (HJ.out.congr fun t _ => by rw [HT.out])
          have HBX := Lib.hid hbx
          clear hbx
          go_wp2
          go_roundw
          case rel => exact ⟨k + 1, by omega, by go_num, HN, HBX.out⟩
          case measure => simp [intOf]; omega
    · obtain rfl : k = l.length := by omega
      have HBR := Lib.hid hb
      clear hb
      rw [List.take_length] at HK
      go_wp2
      go_ret
      exact ⟨⟨g, by rw [HG.out]; exact Nat.le_refl _, rfl, HK.out⟩, HBR.out⟩

end Go.Proofs.YtanlaejdibikiaaGreat
