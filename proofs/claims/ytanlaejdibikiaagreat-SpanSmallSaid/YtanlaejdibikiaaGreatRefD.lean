/-
The reference's Has, Before and Nth.
-/
import Derived.Test.YtanlaejdibikiaaGreatRefC
import Derived.Test.YtanlaejdibikiaaGreatRefV
import Derived.Test.YtanlaejdibikiaaGreatNth
namespace Go.Proofs.YtanlaejdibikiaaGreat
open Go.RowKit Go.Shelf Sp

theorem allOk_set {l : L} (h : IsSet l) : AllOk l := by
  intro s hs
  obtain ⟨i, hi, rfl⟩ := List.getElem_of_mem hs
  have := Chain.get h hi
  rw [okB_iff]; omega

theorem memB_low {l : L} (h : IsSet l) {d : Int} (hd : d < 0 ∨ 65536 ≤ d) : memB l d = false := by
  rw [Bool.eq_false_iff, ne_eq, memB_iff]
  intro hm
  have := Chain.lo h hm
  have := Chain.hi h hm
  omega

set_option maxRecDepth 100000 in
set_option maxHeartbeats 4000000 in
theorem RHas_yes (v : Value) (l : L) (d : Int) (hl : IsSet l) (w : World) (h : Spn w v l) : Calls Tryz.prog 35 #[v, .int .i64 d] w (Says (.bool (memB l d)) w) := by
  have hv := RValid_any v l w h
  rw [(vldB_iff l).2 hl] at hv
  have HV := Lib.hid hv
  have HG := Lib.hid (fun W (hW : Below w.heap.size w W) => Marks_ok v l (allOk_set hl) W (h.below hW (Nat.le_refl _)))
  have HLO := Lib.hid (fun (hd : d < 0 ∨ 65536 ≤ d) => memB_low hl hd)
  clear h hl hv
  by_cases h1 : 0 ≤ d
  · by_cases h2 : d < 65536
    · obtain ⟨D, rfl⟩ : ∃ D : Nat, d = D := ⟨d.toNat, by omega⟩
      go_enter Tryz.func35, Tryz.ntmps35
      go_wp2_with fail
      refine HV.out.mono ?_
      rintro e w1 ⟨rfl, hb1⟩
      have HB := Lib.hid hb1
      clear hb1
      go_wp2_with fail
      refine (HG.out _ HB.out).mono ?_
      rintro e w2 ⟨⟨g, hg, rfl, hR⟩, hb2⟩
      have c1 := hR.cell (i := D) (by omega)
      have HE := Lib.hid (HB.out.trans (hb2.mono HB.out.size))
      clear hb2 hg hR
      go_wp2
      go_ret
      exact ⟨rfl, HE.out⟩
    · rw [HLO.out (by omega)]
      go_enter Tryz.func35, Tryz.ntmps35
      go_wp2_with fail
      refine HV.out.mono ?_
      rintro e w1 ⟨rfl, hb1⟩
      have HB := Lib.hid hb1
      clear hb1
      go_wp2
      go_ret
      exact ⟨rfl, HB.out⟩
  · rw [HLO.out (by omega)]
    go_enter Tryz.func35, Tryz.ntmps35
    go_wp2_with fail
    refine HV.out.mono ?_
    rintro e w1 ⟨rfl, hb1⟩
    have HB := Lib.hid hb1
    clear hb1
    go_wp2
    go_ret
    exact ⟨rfl, HB.out⟩

set_option maxHeartbeats 4000000 in
theorem RHas_no (v : Value) (l : L) (d : Int) (hl : ¬ IsSet l) (w : World) (h : Spn w v l) : Calls Tryz.prog 35 #[v, .int .i64 d] w (Says (.bool false) w) := by
  have hv := RValid_any v l w h
  rw [(vldB_not l).2 hl] at hv
  have HV := Lib.hid hv
  clear h hl hv
  go_enter Tryz.func35, Tryz.ntmps35
  go_wp2_with fail
  refine HV.out.mono ?_
  rintro e w1 ⟨rfl, hb1⟩
  have HB := Lib.hid hb1
  clear hb1
  go_wp2
  go_ret
  exact ⟨rfl, HB.out⟩

set_option maxHeartbeats 4000000 in
theorem RBefore_no (v : Value) (l : L) (d : Int) (hl : ¬ IsSet l) (w : World) (h : Spn w v l) : Calls Tryz.prog 36 #[v, .int .i64 d] w (Says (.int .i64 0) w) := by
  have hv := RValid_any v l w h
  rw [(vldB_not l).2 hl] at hv
  have HV := Lib.hid hv
  clear h hl hv
  go_enter Tryz.func36, Tryz.ntmps36
  go_wp2_with fail
  refine HV.out.mono ?_
  rintro e w1 ⟨rfl, hb1⟩
  have HB := Lib.hid hb1
  clear hb1
  go_wp2
  go_ret
  exact ⟨rfl, HB.out⟩

set_option maxHeartbeats 4000000 in
theorem RNth_no (v : Value) (l : L) (n : Int) (hl : ¬ IsSet l) (w : World) (h : Spn w v l) : Calls Tryz.prog 32 #[v, .int .i64 n] w (Says (.tuple #[.int .i64 0, .bool false]) w) := by
  have hv := RValid_any v l w h
  rw [(vldB_not l).2 hl] at hv
  have HV := Lib.hid hv
  clear h hl hv
  go_enter Tryz.func32, Tryz.ntmps32
  go_wp2_with fail
  refine HV.out.mono ?_
  rintro e w1 ⟨rfl, hb1⟩
  have HB := Lib.hid hb1
  clear hb1
  go_wp2
  go_ret2
  exact ⟨rfl, HB.out⟩

set_option maxRecDepth 100000 in
set_option maxHeartbeats 8000000 in
theorem RBefore_yes (v : Value) (l : L) (day : Int) (hl : IsSet l) (w : World) (h : Spn w v l) : Calls Tryz.prog 36 #[v, .int .i64 day] w (Says (.int .i64 (beforeN l day)) w) := by
  have hv := RValid_any v l w h
  rw [(vldB_iff l).2 hl] at hv
  have HV := Lib.hid hv
  have HG := Lib.hid (fun W (hW : Below w.heap.size w W) => Marks_ok v l (allOk_set hl) W (h.below hW (Nat.le_refl _)))
  have HC := Lib.hid (beforeN_clamp hl (by omega) day)
  clear h hl hv
  go_enter Tryz.func36, Tryz.ntmps36
  go_wp2_with fail
  refine HV.out.mono ?_
  rintro e w1 ⟨rfl, hb1⟩
  have HB := Lib.hid hb1
  clear hb1
  go_wp2_with fail
  refine (HG.out _ HB.out).mono ?_
  rintro e w2 ⟨⟨g, hg, rfl, hR⟩, hb2⟩
  have HR := Lib.hid hR
  have hgw := hR.lt
  have HE := Lib.hid (HB.out.trans (hb2.mono HB.out.size))
  clear hb2 hg hR HB
  go_wp2_with fail
  go_loopw [6, 7] (fun c i wr => ∃ d : Nat, d ≤ 65536 ∧ (d : Int) ≤ max day 0 ∧ i = .int .i64 d ∧ c = .int .i64 (cnt (memB l) d) ∧ wr = w2) (fun _ i _ => 65536 - (intOf i).toNat)
  case atStart => exact ⟨0, by omega, by omega, rfl, rfl, rfl⟩
  case round =>
    obtain ⟨d, hd, hdd, rfl, rfl, rfl⟩ := hrel
    have hcb := cnt_le (memB l) d
    by_cases h1 : d < 65536
    · have h1' : (d : Int) < 65536 := by omega
      by_cases h2 : (d : Int) < day
      · have c1 := HR.out.cell (i := d) h1
        rcases Bool.eq_false_or_eq_true (memB l d) with hm | hm
        · rw [hm] at c1
          have HN : Hid (cnt (memB l) (d + 1) = cnt (memB l) d + 1) := Lib.hid (by rw [cnt, if_pos hm])
          obtain ⟨z, hz⟩ : ∃ z, z = cnt (memB l) d := ⟨_, rfl⟩
          rw [← hz] at hcb HN ⊢
          clear hm hz
          go_wp2
          go_roundw
          case rel => exact ⟨d + 1, by omega, by omega, by go_num, by rw [HN.out], trivial⟩
          case measure => simp [intOf]; omega
        · rw [hm] at c1
          have HN : Hid (cnt (memB l) (d + 1) = cnt (memB l) d) := Lib.hid (by rw [cnt, if_neg (by rw [hm]; decide)]; omega)
          obtain ⟨z, hz⟩ : ∃ z, z = cnt (memB l) d := ⟨_, rfl⟩
          rw [← hz] at hcb HN ⊢
          clear hm hz
          go_wp2
          go_roundw
          case rel => exact ⟨d + 1, by omega, by omega, by go_num, by rw [HN.out], trivial⟩
          case measure => simp [intOf]; omega
      · have e : (min (max day 0) 65536).toNat = d := by omega
        rw [e] at HC
        go_wp2
        go_ret
        exact ⟨by rw [HC.out]; rfl, HE.out⟩
    · have h1' : ¬ (d : Int) < 65536 := by omega
      have e : (min (max day 0) 65536).toNat = d := by omega
      rw [e] at HC
      go_wp2
      go_ret
      exact ⟨by rw [HC.out]; rfl, HE.out⟩

end Go.Proofs.YtanlaejdibikiaaGreat
