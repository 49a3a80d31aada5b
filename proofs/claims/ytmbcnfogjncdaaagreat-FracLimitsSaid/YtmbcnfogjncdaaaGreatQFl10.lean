/- A part of the proofs about fractions. -/
import Derived.Outline
import Derived.Test.YtmbcnfogjncdaaaGreatQFl9
set_option maxRecDepth 100000
set_option maxHeartbeats 2000000
namespace Go.Proofs.YtmbcnfogjncdaaaGreat
open Go.RowKit Wh
theorem divmod_same (na nq nr : Bool) (aa ab : Option Addr) (ja ca jb cb Q0 R0   : Nat) (hjb : 0 < jb) (w : World)
    (HW1 : Hid (∀ B W, Row2 W B na (.slice aa ja ca) na (.slice ab jb cb) → Below w.heap.size w W → Calls Tryz.prog 52 #[.slice (some ⟨B, 0, none⟩) 2 2] W fun e w' => e = .returned (.bool true) ∧ Below W.heap.size W w'))
    (HW2 : Hid (∀ W, Below w.heap.size w W → Calls Tryz.prog 130 #[.slice aa ja ca, .slice ab jb cb] W fun e w' => (∃ vq vr, e = .returned (.tuple #[vq, vr]) ∧ LimF W.heap.size w' vq (dig Q0) ∧ LimF W.heap.size w' vr (dig R0)) ∧ Below W.heap.size W w'))
    (HN1 : Hid (∀ W s, Lim W s (dig Q0) → Calls Tryz.prog 58 #[.bool false, s] W fun e w' => e = .returned (.agg #[.bool nq, s]) ∧ Below W.heap.size W w'))
    (HN2 : Hid (∀ W s, Lim W s (dig R0) → Calls Tryz.prog 58 #[.bool na, s] W fun e w' => e = .returned (.agg #[.bool nr, s]) ∧ Below W.heap.size W w')) :
    Calls Tryz.prog 49 #[.agg #[.bool na, .slice aa ja ca], .agg #[.bool na, .slice ab jb cb]] w fun e w' =>
      (∃ sq sr, e = .returned (.tuple #[.agg #[.bool nq, sq], .agg #[.bool nr, sr], .int .i64 0]) ∧ LimF w.heap.size w' sq (dig Q0) ∧ LimF w.heap.size w' sr (dig R0)) ∧ Below w.heap.size w w' := by
  have hjb0 : ((jb : Int) == 0) = false := by simp; omega
  have n45 : w.heap.size + 1 + 1 + 1 ≠ w.heap.size + 1 + 1 := by omega
  have n42 : w.heap.size + 1 + 1 ≠ w.heap.size := by omega
  have n43 : w.heap.size + 1 + 1 ≠ w.heap.size + 1 := by omega
  have n52 : w.heap.size + 1 + 1 + 1 ≠ w.heap.size := by omega
  have n53 : w.heap.size + 1 + 1 + 1 ≠ w.heap.size + 1 := by omega
  have hz := (((((Below.refl w.heap.size w).alloc (Nat.le_refl _) (.cells #[.bool na, .slice aa ja ca] 24)).alloc (by simp) (.cells #[.bool na, .slice ab jb cb] 24)).alloc (by simp <;> omega) (.cells #[.bool false, .slice none 0 0] 24)).alloc (by simp <;> omega) (.cells #[.bool false, .slice none 0 0] 24)).alloc (by simp <;> omega) (.cells #[.bool na, .slice aa ja ca, .bool na, .slice ab jb cb] 24)
  have x2 := ((((Bx.new w (.bool na) (.slice aa ja ca)).alloc (.cells #[.bool na, .slice ab jb cb] 24)).alloc (.cells #[.bool false, .slice none 0 0] 24)).alloc (.cells #[.bool false, .slice none 0 0] 24)).alloc (.cells #[.bool na, .slice aa ja ca, .bool na, .slice ab jb cb] 24)
  have x3 := (((Bx.new (w.alloc (.cells #[.bool na, .slice aa ja ca] 24)) (.bool na) (.slice ab jb cb)).alloc (.cells #[.bool false, .slice none 0 0] 24)).alloc (.cells #[.bool false, .slice none 0 0] 24)).alloc (.cells #[.bool na, .slice aa ja ca, .bool na, .slice ab jb cb] 24)
  have x4 := ((Bx.new ((w.alloc (.cells #[.bool na, .slice aa ja ca] 24)).alloc (.cells #[.bool na, .slice ab jb cb] 24)) (.bool false) (.slice none 0 0)).alloc (.cells #[.bool false, .slice none 0 0] 24)).alloc (.cells #[.bool na, .slice aa ja ca, .bool na, .slice ab jb cb] 24)
  have x5 := (Bx.new (((w.alloc (.cells #[.bool na, .slice aa ja ca] 24)).alloc (.cells #[.bool na, .slice ab jb cb] 24)).alloc (.cells #[.bool false, .slice none 0 0] 24)) (.bool false) (.slice none 0 0)).alloc (.cells #[.bool na, .slice aa ja ca, .bool na, .slice ab jb cb] 24)
  have hr := row2_new ((((w.alloc (.cells #[.bool na, .slice aa ja ca] 24)).alloc (.cells #[.bool na, .slice ab jb cb] 24)).alloc (.cells #[.bool false, .slice none 0 0] 24)).alloc (.cells #[.bool false, .slice none 0 0] 24)) na (.slice aa ja ca) na (.slice ab jb cb)
  simp only [World.size_alloc] at x3 x4 x5 hr
  have HR := Lib.hid hr
  clear hr
  go_enter Tryz.func49, Tryz.ntmps49
  go_wp2_with (first
    | (go_at_call 52; refine (HW1.out _ _ HR.out hz).mono ?_; rintro e w1 ⟨rfl, hb1⟩; have hB1 := hz.trans (hb1.mono hz.size); have hs1 := hb1.size; simp only [World.size_alloc] at hs1; have y2 := x2.on hb1; have y3 := x3.on hb1; have y4 := x4.on hb1; have y5 := x5.on hb1; obtain ⟨p2, p2'⟩ := y2.cells; obtain ⟨p3, p3'⟩ := y3.cells; obtain ⟨p4, p4'⟩ := y4.cells; obtain ⟨p5, p5'⟩ := y5.cells; obtain ⟨f4, f4'⟩ := y4.free; obtain ⟨f5, f5'⟩ := y5.free)
    | (go_at_call 130; refine (HW2.out _ hB1).mono ?_; rintro e w2 ⟨⟨vq, vr, rfl, hq, hr0⟩, hb2⟩; obtain ⟨aq, cq, rfl⟩ := lf_slice hq; obtain ⟨ar, cr, rfl⟩ := lf_slice hr0; have hB2 := hB1.trans (hb2.mono hB1.size); have hs2 := Nat.le_trans hs1 hb2.size; have z2 := y2.on hb2; have z3 := y3.on hb2; have z4 := y4.on hb2; have z5 := y5.on hb2; obtain ⟨q2, q2'⟩ := z2.cells; obtain ⟨q3, q3'⟩ := z3.cells))
  have HLQF := hq.below (Below.refl w2.heap.size w2).drew
  have HLQ := HLQF.1
  have HLR := hr0.below (Below.refl w2.heap.size w2).drew
  have HBM := hB2
  have ZM2 := z2
  have ZM3 := z3
  have ZM4 := z4
  have ZM5 := z5
  have HSM := hs1
  go_region_held3 (fun w' => w'.cell? ⟨w.heap.size, 0, none⟩ = some (.bool na) ∧ w'.cell? ⟨w.heap.size + 1, 0, none⟩ = some (.bool na))
    (first | go_keep | exact ⟨cell_store c2 n42, cell_store c3 n43⟩ | exact ⟨cell_store (cell_store c2 n42) n52, cell_store (cell_store c3 n43) n53⟩)
    (first
    | (go_at_call_of 58 (Value.slice aq (dig Q0).length cq); refine (HN1.out _ _ HLQ).mono ?_; rintro e w6 ⟨rfl, hb6⟩; have hB6 := HBM.drew.trans (hb6.mono HBM.size); have u2 := ZM2.ond hb6; have u3 := ZM3.ond hb6; have u4 := ZM4.ond hb6; have u5 := ZM5.ond hb6; obtain ⟨b2, b2'⟩ := u2.cells; obtain ⟨b3, b3'⟩ := u3.cells; have HLR6 := HLR.below hb6)
    | (go_at_call_of 58 (Value.slice ar (dig R0).length cr); refine (HN2.out _ _ HLR6.1).mono ?_; rintro e w7 ⟨rfl, hb7⟩; have hB7 := hB6.trans (hb7.mono hB6.size); have v2 := u2.on hb7; have v3 := u3.on hb7; have v4 := u4.on hb7; have v5 := u5.on hb7; obtain ⟨c2, c2'⟩ := v2.cells; obtain ⟨c3, c3'⟩ := v3.cells; obtain ⟨c4, c4'⟩ := v4.cells; obtain ⟨c5, c5'⟩ := v5.cells; obtain ⟨e4, e4'⟩ := v4.free; obtain ⟨e5, e5'⟩ := v5.free))
  go_wp2
  have k4 := ((v4.put (.bool nq) (.slice aq (dig Q0).length cq)).put_other (.bool nr) (.slice ar (dig R0).length cr) n45).cells
  have k5 := ((v5.put_other (.bool nq) (.slice aq (dig Q0).length cq) (Ne.symm n45)).put (.bool nr) (.slice ar (dig R0).length cr)).cells
  have hlq := (((HLQF.below hb6).below hb7).put (B' := w.heap.size + 1 + 1) (Nat.lt_of_lt_of_le (by omega) HSM) (.bool nq) (.slice aq (dig Q0).length cq)).put (B' := w.heap.size + 1 + 1 + 1) (Nat.lt_of_lt_of_le (by omega) HSM) (.bool nr) (.slice ar (dig R0).length cr)
  have hlr := ((HLR6.below hb7).put (B' := w.heap.size + 1 + 1) (Nat.lt_of_lt_of_le (by omega) HSM) (.bool nq) (.slice aq (dig Q0).length cq)).put (B' := w.heap.size + 1 + 1 + 1) (Nat.lt_of_lt_of_le (by omega) HSM) (.bool nr) (.slice ar (dig R0).length cr)
  exact bodyPost_ret (v := .tuple #[.agg #[.bool nq, .slice aq (dig Q0).length cq], .agg #[.bool nr, .slice ar (dig R0).length cr], .int .i64 0]) (by simp [results, Tryz.results49, go_sem, k4.1, k4.2, k5.1, k5.2]) rfl
    ⟨⟨_, _, rfl, hlq.mono (Nat.le_trans (by omega) HSM), hlr.mono (Nat.le_trans (by omega) HSM)⟩, Below.put (Below.put hB7 (by omega) _ _) (by omega) _ _⟩
theorem divmod_even (na nq nr : Bool) (aa ab : Option Addr) (ja ca jb cb Q0 R0   : Nat) (hjb : 0 < jb) (hr00 : ¬ (0 < ((dig R0).length : Int))) (w : World)
    (HW1 : Hid (∀ B W, Row2 W B na (.slice aa ja ca) (!na) (.slice ab jb cb) → Below w.heap.size w W → Calls Tryz.prog 52 #[.slice (some ⟨B, 0, none⟩) 2 2] W fun e w' => e = .returned (.bool true) ∧ Below W.heap.size W w'))
    (HW2 : Hid (∀ W, Below w.heap.size w W → Calls Tryz.prog 130 #[.slice aa ja ca, .slice ab jb cb] W fun e w' => (∃ vq vr, e = .returned (.tuple #[vq, vr]) ∧ LimF W.heap.size w' vq (dig Q0) ∧ LimF W.heap.size w' vr (dig R0)) ∧ Below W.heap.size W w'))
    (HN1 : Hid (∀ W s, Lim W s (dig Q0) → Calls Tryz.prog 58 #[.bool true, s] W fun e w' => e = .returned (.agg #[.bool nq, s]) ∧ Below W.heap.size W w'))
    (HN2 : Hid (∀ W s, Lim W s (dig R0) → Calls Tryz.prog 58 #[.bool (!na), s] W fun e w' => e = .returned (.agg #[.bool nr, s]) ∧ Below W.heap.size W w')) :
    Calls Tryz.prog 49 #[.agg #[.bool na, .slice aa ja ca], .agg #[.bool (!na), .slice ab jb cb]] w fun e w' =>
      (∃ sq sr, e = .returned (.tuple #[.agg #[.bool nq, sq], .agg #[.bool nr, sr], .int .i64 0]) ∧ LimF w.heap.size w' sq (dig Q0) ∧ LimF w.heap.size w' sr (dig R0)) ∧ Below w.heap.size w w' := by
  have hjb0 : ((jb : Int) == 0) = false := by simp; omega
  have n45 : w.heap.size + 1 + 1 + 1 ≠ w.heap.size + 1 + 1 := by omega
  have n42 : w.heap.size + 1 + 1 ≠ w.heap.size := by omega
  have n43 : w.heap.size + 1 + 1 ≠ w.heap.size + 1 := by omega
  have n52 : w.heap.size + 1 + 1 + 1 ≠ w.heap.size := by omega
  have n53 : w.heap.size + 1 + 1 + 1 ≠ w.heap.size + 1 := by omega
  have hz := (((((Below.refl w.heap.size w).alloc (Nat.le_refl _) (.cells #[.bool na, .slice aa ja ca] 24)).alloc (by simp) (.cells #[.bool (!na), .slice ab jb cb] 24)).alloc (by simp <;> omega) (.cells #[.bool false, .slice none 0 0] 24)).alloc (by simp <;> omega) (.cells #[.bool false, .slice none 0 0] 24)).alloc (by simp <;> omega) (.cells #[.bool na, .slice aa ja ca, .bool (!na), .slice ab jb cb] 24)
  have x2 := ((((Bx.new w (.bool na) (.slice aa ja ca)).alloc (.cells #[.bool (!na), .slice ab jb cb] 24)).alloc (.cells #[.bool false, .slice none 0 0] 24)).alloc (.cells #[.bool false, .slice none 0 0] 24)).alloc (.cells #[.bool na, .slice aa ja ca, .bool (!na), .slice ab jb cb] 24)
  have x3 := (((Bx.new (w.alloc (.cells #[.bool na, .slice aa ja ca] 24)) (.bool (!na)) (.slice ab jb cb)).alloc (.cells #[.bool false, .slice none 0 0] 24)).alloc (.cells #[.bool false, .slice none 0 0] 24)).alloc (.cells #[.bool na, .slice aa ja ca, .bool (!na), .slice ab jb cb] 24)
  have x4 := ((Bx.new ((w.alloc (.cells #[.bool na, .slice aa ja ca] 24)).alloc (.cells #[.bool (!na), .slice ab jb cb] 24)) (.bool false) (.slice none 0 0)).alloc (.cells #[.bool false, .slice none 0 0] 24)).alloc (.cells #[.bool na, .slice aa ja ca, .bool (!na), .slice ab jb cb] 24)
  have x5 := (Bx.new (((w.alloc (.cells #[.bool na, .slice aa ja ca] 24)).alloc (.cells #[.bool (!na), .slice ab jb cb] 24)).alloc (.cells #[.bool false, .slice none 0 0] 24)) (.bool false) (.slice none 0 0)).alloc (.cells #[.bool na, .slice aa ja ca, .bool (!na), .slice ab jb cb] 24)
  have hr := row2_new ((((w.alloc (.cells #[.bool na, .slice aa ja ca] 24)).alloc (.cells #[.bool (!na), .slice ab jb cb] 24)).alloc (.cells #[.bool false, .slice none 0 0] 24)).alloc (.cells #[.bool false, .slice none 0 0] 24)) na (.slice aa ja ca) (!na) (.slice ab jb cb)
  simp only [World.size_alloc] at x3 x4 x5 hr
  have HR := Lib.hid hr
  clear hr
  go_enter Tryz.func49, Tryz.ntmps49
  go_wp2_with (first
    | (go_at_call 52; refine (HW1.out _ _ HR.out hz).mono ?_; rintro e w1 ⟨rfl, hb1⟩; have hB1 := hz.trans (hb1.mono hz.size); have hs1 := hb1.size; simp only [World.size_alloc] at hs1; have y2 := x2.on hb1; have y3 := x3.on hb1; have y4 := x4.on hb1; have y5 := x5.on hb1; obtain ⟨p2, p2'⟩ := y2.cells; obtain ⟨p3, p3'⟩ := y3.cells; obtain ⟨p4, p4'⟩ := y4.cells; obtain ⟨p5, p5'⟩ := y5.cells; obtain ⟨f4, f4'⟩ := y4.free; obtain ⟨f5, f5'⟩ := y5.free)
    | (go_at_call 130; refine (HW2.out _ hB1).mono ?_; rintro e w2 ⟨⟨vq, vr, rfl, hq, hr0⟩, hb2⟩; obtain ⟨aq, cq, rfl⟩ := lf_slice hq; obtain ⟨ar, cr, rfl⟩ := lf_slice hr0; have hB2 := hB1.trans (hb2.mono hB1.size); have hs2 := Nat.le_trans hs1 hb2.size; have z2 := y2.on hb2; have z3 := y3.on hb2; have z4 := y4.on hb2; have z5 := y5.on hb2; obtain ⟨q2, q2'⟩ := z2.cells; obtain ⟨q3, q3'⟩ := z3.cells))
  have HLQF := hq.below (Below.refl w2.heap.size w2).drew
  have HLQ := HLQF.1
  have HLR := hr0.below (Below.refl w2.heap.size w2).drew
  have HBM := hB2
  have ZM2 := z2
  have ZM3 := z3
  have ZM4 := z4
  have ZM5 := z5
  have HSM := hs1
  go_region_held3 (fun w' => w'.cell? ⟨w.heap.size, 0, none⟩ = some (.bool na) ∧ w'.cell? ⟨w.heap.size + 1, 0, none⟩ = some (.bool (!na)))
    (first | go_keep | exact ⟨cell_store c2 n42, cell_store c3 n43⟩ | exact ⟨cell_store (cell_store c2 n42) n52, cell_store (cell_store c3 n43) n53⟩)
    (first
    | (go_at_call_of 58 (Value.slice aq (dig Q0).length cq); refine (HN1.out _ _ HLQ).mono ?_; rintro e w6 ⟨rfl, hb6⟩; have hB6 := HBM.drew.trans (hb6.mono HBM.size); have u2 := ZM2.ond hb6; have u3 := ZM3.ond hb6; have u4 := ZM4.ond hb6; have u5 := ZM5.ond hb6; obtain ⟨b2, b2'⟩ := u2.cells; obtain ⟨b3, b3'⟩ := u3.cells; have HLR6 := HLR.below hb6)
    | (go_at_call_of 58 (Value.slice ar (dig R0).length cr); refine (HN2.out _ _ HLR6.1).mono ?_; rintro e w7 ⟨rfl, hb7⟩; have hB7 := hB6.trans (hb7.mono hB6.size); have v2 := u2.on hb7; have v3 := u3.on hb7; have v4 := u4.on hb7; have v5 := u5.on hb7; obtain ⟨c2, c2'⟩ := v2.cells; obtain ⟨c3, c3'⟩ := v3.cells; obtain ⟨c4, c4'⟩ := v4.cells; obtain ⟨c5, c5'⟩ := v5.cells; obtain ⟨e4, e4'⟩ := v4.free; obtain ⟨e5, e5'⟩ := v5.free))
  go_wp2
  have k4 := ((v4.put (.bool nq) (.slice aq (dig Q0).length cq)).put_other (.bool nr) (.slice ar (dig R0).length cr) n45).cells
  have k5 := ((v5.put_other (.bool nq) (.slice aq (dig Q0).length cq) (Ne.symm n45)).put (.bool nr) (.slice ar (dig R0).length cr)).cells
  have hlq := (((HLQF.below hb6).below hb7).put (B' := w.heap.size + 1 + 1) (Nat.lt_of_lt_of_le (by omega) HSM) (.bool nq) (.slice aq (dig Q0).length cq)).put (B' := w.heap.size + 1 + 1 + 1) (Nat.lt_of_lt_of_le (by omega) HSM) (.bool nr) (.slice ar (dig R0).length cr)
  have hlr := ((HLR6.below hb7).put (B' := w.heap.size + 1 + 1) (Nat.lt_of_lt_of_le (by omega) HSM) (.bool nq) (.slice aq (dig Q0).length cq)).put (B' := w.heap.size + 1 + 1 + 1) (Nat.lt_of_lt_of_le (by omega) HSM) (.bool nr) (.slice ar (dig R0).length cr)
  exact bodyPost_ret (v := .tuple #[.agg #[.bool nq, .slice aq (dig Q0).length cq], .agg #[.bool nr, .slice ar (dig R0).length cr], .int .i64 0]) (by simp [results, Tryz.results49, go_sem, k4.1, k4.2, k5.1, k5.2]) rfl
    ⟨⟨_, _, rfl, hlq.mono (Nat.le_trans (by omega) HSM), hlr.mono (Nat.le_trans (by omega) HSM)⟩, Below.put (Below.put hB7 (by omega) _ _) (by omega) _ _⟩
theorem divmod_adjust (na nq nr : Bool) (aa ab : Option Addr) (ja ca jb cb Q0 R0 QF RF : Nat) (hjb : 0 < jb) (hr00 : 0 < ((dig R0).length : Int)) (w : World)
    (HW1 : Hid (∀ B W, Row2 W B na (.slice aa ja ca) (!na) (.slice ab jb cb) → Below w.heap.size w W → Calls Tryz.prog 52 #[.slice (some ⟨B, 0, none⟩) 2 2] W fun e w' => e = .returned (.bool true) ∧ Below W.heap.size W w'))
    (HW2 : Hid (∀ W, Below w.heap.size w W → Calls Tryz.prog 130 #[.slice aa ja ca, .slice ab jb cb] W fun e w' => (∃ vq vr, e = .returned (.tuple #[vq, vr]) ∧ LimF W.heap.size w' vq (dig Q0) ∧ LimF W.heap.size w' vr (dig R0)) ∧ Below W.heap.size W w'))
    (HL1 : Hid (∀ W, Calls Tryz.prog 65 #[.int .u64 1] W fun e w' => (∃ v, e = .returned v ∧ LimF W.heap.size w' v (dig 1)) ∧ Below W.heap.size W w'))
    (HC1 : Hid (∀ W s1 s2, Lim W s1 (dig Q0) → Lim W s2 (dig 1) → Calls Tryz.prog 131 #[s1, s2, .int .i64 1, .int .i64 1] W fun e w' => (∃ v, e = .returned v ∧ LimF W.heap.size w' v (dig QF)) ∧ Below W.heap.size W w'))
    (HC2 : Hid (∀ W s2, Below w.heap.size w W → Lim W s2 (dig R0) → Calls Tryz.prog 131 #[.slice ab jb cb, s2, .int .i64 1, .int .i64 (-1)] W fun e w' => (∃ v, e = .returned v ∧ LimF W.heap.size w' v (dig RF)) ∧ Below W.heap.size W w'))
    (HN1 : Hid (∀ W s, Lim W s (dig QF) → Calls Tryz.prog 58 #[.bool true, s] W fun e w' => e = .returned (.agg #[.bool nq, s]) ∧ Below W.heap.size W w'))
    (HN2 : Hid (∀ W s, Lim W s (dig RF) → Calls Tryz.prog 58 #[.bool (!na), s] W fun e w' => e = .returned (.agg #[.bool nr, s]) ∧ Below W.heap.size W w')) :
    Calls Tryz.prog 49 #[.agg #[.bool na, .slice aa ja ca], .agg #[.bool (!na), .slice ab jb cb]] w fun e w' =>
      (∃ sq sr, e = .returned (.tuple #[.agg #[.bool nq, sq], .agg #[.bool nr, sr], .int .i64 0]) ∧ LimF w.heap.size w' sq (dig QF) ∧ LimF w.heap.size w' sr (dig RF)) ∧ Below w.heap.size w w' := by
  have hjb0 : ((jb : Int) == 0) = false := by simp; omega
  have n45 : w.heap.size + 1 + 1 + 1 ≠ w.heap.size + 1 + 1 := by omega
  have n42 : w.heap.size + 1 + 1 ≠ w.heap.size := by omega
  have n43 : w.heap.size + 1 + 1 ≠ w.heap.size + 1 := by omega
  have n52 : w.heap.size + 1 + 1 + 1 ≠ w.heap.size := by omega
  have n53 : w.heap.size + 1 + 1 + 1 ≠ w.heap.size + 1 := by omega
  have hz := (((((Below.refl w.heap.size w).alloc (Nat.le_refl _) (.cells #[.bool na, .slice aa ja ca] 24)).alloc (by simp) (.cells #[.bool (!na), .slice ab jb cb] 24)).alloc (by simp <;> omega) (.cells #[.bool false, .slice none 0 0] 24)).alloc (by simp <;> omega) (.cells #[.bool false, .slice none 0 0] 24)).alloc (by simp <;> omega) (.cells #[.bool na, .slice aa ja ca, .bool (!na), .slice ab jb cb] 24)
  have x2 := ((((Bx.new w (.bool na) (.slice aa ja ca)).alloc (.cells #[.bool (!na), .slice ab jb cb] 24)).alloc (.cells #[.bool false, .slice none 0 0] 24)).alloc (.cells #[.bool false, .slice none 0 0] 24)).alloc (.cells #[.bool na, .slice aa ja ca, .bool (!na), .slice ab jb cb] 24)
  have x3 := (((Bx.new (w.alloc (.cells #[.bool na, .slice aa ja ca] 24)) (.bool (!na)) (.slice ab jb cb)).alloc (.cells #[.bool false, .slice none 0 0] 24)).alloc (.cells #[.bool false, .slice none 0 0] 24)).alloc (.cells #[.bool na, .slice aa ja ca, .bool (!na), .slice ab jb cb] 24)
  have x4 := ((Bx.new ((w.alloc (.cells #[.bool na, .slice aa ja ca] 24)).alloc (.cells #[.bool (!na), .slice ab jb cb] 24)) (.bool false) (.slice none 0 0)).alloc (.cells #[.bool false, .slice none 0 0] 24)).alloc (.cells #[.bool na, .slice aa ja ca, .bool (!na), .slice ab jb cb] 24)
  have x5 := (Bx.new (((w.alloc (.cells #[.bool na, .slice aa ja ca] 24)).alloc (.cells #[.bool (!na), .slice ab jb cb] 24)).alloc (.cells #[.bool false, .slice none 0 0] 24)) (.bool false) (.slice none 0 0)).alloc (.cells #[.bool na, .slice aa ja ca, .bool (!na), .slice ab jb cb] 24)
  have hr := row2_new ((((w.alloc (.cells #[.bool na, .slice aa ja ca] 24)).alloc (.cells #[.bool (!na), .slice ab jb cb] 24)).alloc (.cells #[.bool false, .slice none 0 0] 24)).alloc (.cells #[.bool false, .slice none 0 0] 24)) na (.slice aa ja ca) (!na) (.slice ab jb cb)
  simp only [World.size_alloc] at x3 x4 x5 hr
  have HR := Lib.hid hr
  clear hr
  go_enter Tryz.func49, Tryz.ntmps49
  go_wp2_with (first
    | (go_at_call 52; refine (HW1.out _ _ HR.out hz).mono ?_; rintro e w1 ⟨rfl, hb1⟩; have hB1 := hz.trans (hb1.mono hz.size); have hs1 := hb1.size; simp only [World.size_alloc] at hs1; have y2 := x2.on hb1; have y3 := x3.on hb1; have y4 := x4.on hb1; have y5 := x5.on hb1; obtain ⟨p2, p2'⟩ := y2.cells; obtain ⟨p3, p3'⟩ := y3.cells; obtain ⟨p4, p4'⟩ := y4.cells; obtain ⟨p5, p5'⟩ := y5.cells; obtain ⟨f4, f4'⟩ := y4.free; obtain ⟨f5, f5'⟩ := y5.free)
    | (go_at_call 130; refine (HW2.out _ hB1).mono ?_; rintro e w2 ⟨⟨vq, vr, rfl, hq, hr0⟩, hb2⟩; obtain ⟨aq, cq, rfl⟩ := lf_slice hq; obtain ⟨ar, cr, rfl⟩ := lf_slice hr0; have hB2 := hB1.trans (hb2.mono hB1.size); have hs2 := Nat.le_trans hs1 hb2.size; have z2 := y2.on hb2; have z3 := y3.on hb2; have z4 := y4.on hb2; have z5 := y5.on hb2; obtain ⟨q2, q2'⟩ := z2.cells; obtain ⟨q3, q3'⟩ := z3.cells)
    | (go_at_call 65; refine (HL1.out _).mono ?_; rintro e w3 ⟨⟨v1, rfl, h1⟩, hb3⟩; obtain ⟨a1, c1, rfl⟩ := lf_slice h1; have hB3 := hB2.trans (hb3.mono hB2.size); have g2 := z2.on hb3; have g3 := z3.on hb3; have g4 := z4.on hb3; have g5 := z5.on hb3; have hq3 := hq.below hb3; have hr3 := hr0.below hb3)
    | (go_at_call_of 131 (Value.slice aq (dig Q0).length cq); refine (HC1.out _ _ _ hq3.1 h1.1).mono ?_; rintro e w4 ⟨⟨v4, rfl, hq5⟩, hb4⟩; obtain ⟨a4, d4, rfl⟩ := lf_slice hq5; have hB4 := hB3.trans (hb4.mono hB3.size); have r2 := g2.on hb4; have r3 := g3.on hb4; have r4 := g4.on hb4; have r5 := g5.on hb4; obtain ⟨t2, t2'⟩ := r2.cells; obtain ⟨t3, t3'⟩ := r3.cells; have hr4 := hr3.below hb4)
    | (go_at_call_of 131 (Value.slice ar (dig R0).length cr); refine (HC2.out _ _ hB4 hr4.1).mono ?_; rintro e w5 ⟨⟨v5, rfl, hr5⟩, hb5⟩; obtain ⟨a5, d5, rfl⟩ := lf_slice hr5; have hB5 := hB4.trans (hb5.mono hB4.size); have s2 := r2.on hb5; have s3 := r3.on hb5; have s4 := r4.on hb5; have s5 := r5.on hb5; obtain ⟨t5, t5'⟩ := s2.cells; obtain ⟨t6, t6'⟩ := s3.cells))
  have HLQF := (hq5.below hb5).below (Below.refl w5.heap.size w5).drew
  have HLQ := HLQF.1
  have HLR := hr5.below (Below.refl w5.heap.size w5).drew
  have HBM := hB5
  have ZM2 := s2
  have ZM3 := s3
  have ZM4 := s4
  have ZM5 := s5
  have HSM := Nat.le_trans hs2 (Nat.le_trans hb3.size (Nat.le_refl _))
  have HSM2 := Nat.le_trans HSM hb4.size
  go_region_held3 (fun w' => w'.cell? ⟨w.heap.size, 0, none⟩ = some (.bool na) ∧ w'.cell? ⟨w.heap.size + 1, 0, none⟩ = some (.bool (!na)))
    (first | go_keep | exact ⟨cell_store c2 n42, cell_store c3 n43⟩ | exact ⟨cell_store (cell_store c2 n42) n52, cell_store (cell_store c3 n43) n53⟩)
    (first
    | (go_at_call_of 58 (Value.slice a4 (dig QF).length d4); refine (HN1.out _ _ HLQ).mono ?_; rintro e w6 ⟨rfl, hb6⟩; have hB6 := HBM.drew.trans (hb6.mono HBM.size); have u2 := ZM2.ond hb6; have u3 := ZM3.ond hb6; have u4 := ZM4.ond hb6; have u5 := ZM5.ond hb6; obtain ⟨b2, b2'⟩ := u2.cells; obtain ⟨b3, b3'⟩ := u3.cells; have HLR6 := HLR.below hb6)
    | (go_at_call_of 58 (Value.slice a5 (dig RF).length d5); refine (HN2.out _ _ HLR6.1).mono ?_; rintro e w7 ⟨rfl, hb7⟩; have hB7 := hB6.trans (hb7.mono hB6.size); have v2 := u2.on hb7; have v3 := u3.on hb7; have v4 := u4.on hb7; have v5 := u5.on hb7; obtain ⟨c2, c2'⟩ := v2.cells; obtain ⟨c3, c3'⟩ := v3.cells; obtain ⟨c4, c4'⟩ := v4.cells; obtain ⟨c5, c5'⟩ := v5.cells; obtain ⟨e4, e4'⟩ := v4.free; obtain ⟨e5, e5'⟩ := v5.free))
  go_wp2
  have k4 := ((v4.put (.bool nq) (.slice a4 (dig QF).length d4)).put_other (.bool nr) (.slice a5 (dig RF).length d5) n45).cells
  have k5 := ((v5.put_other (.bool nq) (.slice a4 (dig QF).length d4) (Ne.symm n45)).put (.bool nr) (.slice a5 (dig RF).length d5)).cells
  have hlq := (((HLQF.below hb6).below hb7).put (B' := w.heap.size + 1 + 1) (Nat.lt_of_lt_of_le (by omega) HSM) (.bool nq) (.slice a4 (dig QF).length d4)).put (B' := w.heap.size + 1 + 1 + 1) (Nat.lt_of_lt_of_le (by omega) HSM) (.bool nr) (.slice a5 (dig RF).length d5)
  have hlr := ((HLR6.below hb7).put (B' := w.heap.size + 1 + 1) (Nat.lt_of_lt_of_le (by omega) HSM2) (.bool nq) (.slice a4 (dig QF).length d4)).put (B' := w.heap.size + 1 + 1 + 1) (Nat.lt_of_lt_of_le (by omega) HSM2) (.bool nr) (.slice a5 (dig RF).length d5)
  exact bodyPost_ret (v := .tuple #[.agg #[.bool nq, .slice a4 (dig QF).length d4], .agg #[.bool nr, .slice a5 (dig RF).length d5], .int .i64 0]) (by simp [results, Tryz.results49, go_sem, k4.1, k4.2, k5.1, k5.2]) rfl
    ⟨⟨_, _, rfl, hlq.mono (Nat.le_trans (by omega) HSM), hlr.mono (Nat.le_trans (by omega) HSM2)⟩, Below.put (Below.put hB7 (by omega) _ _) (by omega) _ _⟩
end Go.Proofs.YtmbcnfogjncdaaaGreat
namespace Go.Proofs.YtmbcnfogjncdaaaGreat
open Go.RowKit Wh
def DivRel (a b q r : Int) : Prop := a = q * b + r ∧ (0 ≤ r ∧ r < b ∨ b < r ∧ r ≤ 0) ∧ q.natAbs ≤ a.natAbs ∧ r.natAbs ≤ b.natAbs
theorem DivRel.uniq' {a b q r q' r' : Int} (h : DivRel a b q r) (h' : a = q' * b + r' ∧ (0 ≤ r' ∧ r' < b ∨ b < r' ∧ r' ≤ 0)) : q = q' ∧ r = r' := by
  obtain ⟨h1, h2, -⟩ := h
  obtain ⟨h3, h4⟩ := h'
  have e : (q - q') * b = r' - r := by rw [Int.sub_mul]; omega
  have e0 : q = q' := by
    rcases Int.lt_trichotomy q q' with hlt | heq | hgt
    · exfalso
      rcases h2 with h2 | h2
      · have hb : 0 < b := by omega
        have : (q - q') * b ≤ (-1) * b := Int.mul_le_mul_of_nonneg_right (by omega) (by omega)
        rcases h4 with h4 | h4 <;> omega
      · have hb : b < 0 := by omega
        have : (-1) * b ≤ (q - q') * b := Int.mul_le_mul_of_nonpos_right (by omega) (by omega)
        rcases h4 with h4 | h4 <;> omega
    · exact heq
    · exfalso
      rcases h2 with h2 | h2
      · have hb : 0 < b := by omega
        have : 1 * b ≤ (q - q') * b := Int.mul_le_mul_of_nonneg_right (by omega) (by omega)
        rcases h4 with h4 | h4 <;> omega
      · have hb : b < 0 := by omega
        have : (q - q') * b ≤ 1 * b := Int.mul_le_mul_of_nonpos_right (by omega) (by omega)
        rcases h4 with h4 | h4 <;> omega
  subst e0
  refine ⟨rfl, ?_⟩
  omega
theorem not_iff_of {p q : Prop} [Decidable p] [Decidable q] (h : decide p = !decide q) : ¬ (p ↔ q) := fun e => by
 have e2 : decide p = decide q := decide_eq_decide.2 e
 rw [e2] at h
 cases hq : decide q <;> rw [hq] at h <;> cases h
theorem neg_nat_sign (Q : Nat) : (true && decide (dig Q ≠ [])) = decide (-(Q : Int) < 0) := by
 rw [Bool.eq_iff_iff]; simp only [Bool.true_and, decide_eq_true_eq, ne_eq, dig_nil_iff]; omega
theorem DivRel.uniq {a b q r q' r' : Int} (h : DivRel a b q r) (h' : DivRel a b q' r') : q = q' ∧ r = r' := h.uniq' ⟨h'.1, h'.2.1⟩
def sgnR (b : Int) (R : Nat) : Int := if b < 0 then -(R : Int) else (R : Int)
theorem sgnR_abs (b : Int) (R : Nat) : (sgnR b R).natAbs = R := by unfold sgnR; split <;> omega
theorem sgnR_sign (b : Int) (R : Nat) : (decide (b < 0) && decide (dig R ≠ [])) = decide (sgnR b R < 0) := by
 rw [Bool.eq_iff_iff]
 simp only [Bool.and_eq_true, decide_eq_true_eq, ne_eq, dig_nil_iff]
 unfold sgnR
 split <;> omega
theorem dm_same (a b : Int) (hb : b ≠ 0) (h : decide (b < 0) = decide (a < 0)) : DivRel a b ((a.natAbs / b.natAbs : Nat) : Int) (sgnR b (a.natAbs % b.natAbs)) := by
  have e := congrArg (Nat.cast (R := Int)) (Nat.div_add_mod a.natAbs b.natAbs)
  have hlt := Nat.mod_lt a.natAbs (show 0 < b.natAbs by omega)
  have hq := Nat.div_le_self a.natAbs b.natAbs
  have hi := decide_eq_decide.1 h
  rw [Int.natCast_add, Int.natCast_mul, Int.mul_comm] at e
  generalize hQ : a.natAbs / b.natAbs = Q at *
  generalize hR : a.natAbs % b.natAbs = R at *
  refine ⟨?_, ?_, by omega, by rw [sgnR_abs]; omega⟩
  · unfold sgnR
    split
    · have e1 : (b.natAbs : Int) = -b := by omega
      rw [e1, Int.mul_neg] at e
      omega
    · have e1 : (b.natAbs : Int) = b := by omega
      rw [e1] at e
      omega
  · unfold sgnR; split <;> omega
theorem dm_even (a b : Int) (hb : b ≠ 0) (h : decide (b < 0) = !decide (a < 0)) (hR0 : a.natAbs % b.natAbs = 0) : DivRel a b (-((a.natAbs / b.natAbs : Nat) : Int)) 0 := by
  have e := congrArg (Nat.cast (R := Int)) (Nat.div_add_mod a.natAbs b.natAbs)
  have hq := Nat.div_le_self a.natAbs b.natAbs
  have hi : ¬ (b < 0 ↔ a < 0) := not_iff_of h
  rw [hR0, Int.natCast_add, Int.natCast_mul, Int.mul_comm] at e
  generalize hQ : a.natAbs / b.natAbs = Q at *
  refine ⟨?_, by omega, by omega, by omega⟩
  rw [Int.neg_mul]
  rcases Int.lt_or_le b 0 with hb' | hb'
  · have e1 : (b.natAbs : Int) = -b := by omega
    rw [e1, Int.mul_neg] at e
    omega
  · have e1 : (b.natAbs : Int) = b := by omega
    rw [e1] at e
    omega
theorem dm_adjust (a b : Int) (hb : b ≠ 0) (h : decide (b < 0) = !decide (a < 0)) (hR0 : a.natAbs % b.natAbs ≠ 0) : DivRel a b (-((a.natAbs / b.natAbs + 1 : Nat) : Int)) (sgnR b (b.natAbs - a.natAbs % b.natAbs)) := by
  have e := congrArg (Nat.cast (R := Int)) (Nat.div_add_mod a.natAbs b.natAbs)
  have hlt := Nat.mod_lt a.natAbs (show 0 < b.natAbs by omega)
  have hq : a.natAbs / b.natAbs + 1 ≤ a.natAbs := by
    rcases Nat.lt_or_ge b.natAbs 2 with h2 | h2
    · have : b.natAbs = 1 := by omega
      rw [this, Nat.mod_one] at hR0
      exact absurd rfl hR0
    · have h3 : a.natAbs / b.natAbs ≤ a.natAbs / 2 := Nat.div_le_div_left h2 (by omega)
      have h4 : a.natAbs ≠ 0 := fun e => hR0 (by rw [e, Nat.zero_mod])
      rcases Nat.lt_or_ge a.natAbs 2 with h5 | h5
      · have : a.natAbs / b.natAbs = 0 := Nat.div_eq_of_lt (by omega)
        omega
      · omega
  have hi : ¬ (b < 0 ↔ a < 0) := not_iff_of h
  rw [Int.natCast_add, Int.natCast_mul, Int.mul_comm] at e
  generalize hQ : a.natAbs / b.natAbs = Q at *
  generalize hR : a.natAbs % b.natAbs = R at *
  refine ⟨?_, ?_, by omega, by rw [sgnR_abs]; omega⟩
  · rw [Int.natCast_add, Int.neg_mul, Int.add_mul]
    unfold sgnR
    split
    · have e1 : (b.natAbs : Int) = -b := by omega
      rw [e1, Int.mul_neg] at e
      omega
    · have e1 : (b.natAbs : Int) = b := by omega
      rw [e1] at e
      omega
  · unfold sgnR; split <;> omega
theorem dig_pos_len {n : Nat} (h : n ≠ 0) : 0 < (dig n).length := List.length_pos_iff.2 fun e => h ((dig_nil_iff n).1 e)
theorem DivMod_any (va vb : Value) (a b : Int) (ha : (dig a.natAbs).length ≤ 1024) (hb : (dig b.natAbs).length ≤ 1024) (hb0 : b ≠ 0) (w : World) (h' : Num w va a) (g' : Num w vb b) :
    Calls Tryz.prog 49 #[va, vb] w fun e w' => (∃ vq vr q r, e = .returned (.tuple #[vq, vr, .int .i64 0]) ∧ DivRel a b q r ∧ NumF w.heap.size w' vq q ∧ NumF w.heap.size w' vr r) ∧ Below w.heap.size w w' := by
  obtain ⟨s, rfl, h⟩ := h'
  obtain ⟨s', rfl, g⟩ := g'
  have hw1 := fun B W (hr : Row2 W B (decide (a < 0)) s (decide (b < 0)) s') (hW : Below w.heap.size w W) => allValid_two B _ s _ _ s' _ W hr.1 hr.2.1 hr.2.2.1 hr.2.2.2 (h.below hW (Nat.le_refl _)) (g.below hW (Nat.le_refl _))
  rw [vld_num a ha, vld_num b hb, Bool.true_and] at hw1
  have hw2 := fun W (hW : Below w.heap.size w W) => divide_any s s' a.natAbs b.natAbs (by omega) (by omega) W (h.below hW (Nat.le_refl _)) (g.below hW (Nat.le_refl _))
  have hHN : ∀ (x : Bool) (n : Nat) (W : World) (s : Value), Lim W s (dig n) → Calls Tryz.prog 58 #[.bool x, s] W fun e w' => e = .returned (.agg #[.bool (x && decide (dig n ≠ [])), s]) ∧ Below W.heap.size W w' := fun x n W s hl => number_any x s _ W hl
  have hrl : ∀ n, n ≤ a.natAbs ∨ n ≤ b.natAbs → (dig n).length ≤ 1048000 := fun n hn => by
    rcases hn with hn | hn <;> have := length_dig_mono hn <;> omega
  have e1 : dig 1 = [1] := by rw [dig_pos (by omega)]; simp [dig_zero]
  rcases bne_cases (decide (a < 0)) (decide (b < 0)) with ⟨-, hs⟩ | ⟨-, hs⟩
  · have hd := dm_same a b hb0 hs
    have hn1 := hHN false (a.natAbs / b.natAbs)
    have hn2 := hHN (decide (b < 0)) (a.natAbs % b.natAbs)
    rw [Bool.false_and] at hn1
    rw [sgnR_sign, hs] at hn2
    rw [hs] at hw1 ⊢
    obtain ⟨aa, ca, rfl⟩ := lim_slice h
    obtain ⟨ab, cb, rfl⟩ := lim_slice g
    refine (divmod_same _ _ _ aa ab _ ca _ cb _ _ (dig_pos_len (by omega)) w (Lib.hid hw1) (Lib.hid hw2) (Lib.hid hn1) (Lib.hid hn2)).mono ?_
    rintro e w' ⟨⟨sq, sr, rfl, hq, hr⟩, hb⟩
    refine ⟨⟨_, _, _, _, rfl, hd, ⟨sq, ?_, by rw [Int.natAbs_natCast]; exact hq⟩, ⟨sr, rfl, by rw [sgnR_abs]; exact hr⟩⟩, hb⟩
    rw [show decide (((a.natAbs / b.natAbs : Nat) : Int) < 0) = false from decide_eq_false (Int.not_lt.2 (Int.natCast_nonneg _))]
  · by_cases hR : a.natAbs % b.natAbs = 0
    · have hd := dm_even a b hb0 hs hR
      have hn1 := hHN true (a.natAbs / b.natAbs)
      have hn2 := hHN (decide (b < 0)) (a.natAbs % b.natAbs)
      rw [sgnR_sign, hs, hR] at hn2
      rw [neg_nat_sign] at hn1
      rw [hs] at hw1 ⊢
      rw [hR] at hw2
      obtain ⟨aa, ca, rfl⟩ := lim_slice h
      obtain ⟨ab, cb, rfl⟩ := lim_slice g
      refine (divmod_even _ _ _ aa ab _ ca _ cb _ _ (dig_pos_len (by omega)) (by rw [dig_zero]; simp) w (Lib.hid hw1) (Lib.hid hw2) (Lib.hid hn1) (Lib.hid hn2)).mono ?_
      rintro e w' ⟨⟨sq, sr, rfl, hq, hr⟩, hb⟩
      refine ⟨⟨_, _, _, _, rfl, hd, ⟨sq, rfl, by rw [Int.natAbs_neg, Int.natAbs_natCast]; exact hq⟩, ⟨sr, ?_, hr⟩⟩, hb⟩
      simp [sgnR]
    · have hd := dm_adjust a b hb0 hs hR
      have hlt := Nat.mod_lt a.natAbs (show 0 < b.natAbs by omega)
      have hq1 := Nat.div_le_self a.natAbs b.natAbs
      have hq2 : a.natAbs / b.natAbs + 1 ≤ a.natAbs := by have := hd.2.2.1; omega
      have hn1 := hHN true (a.natAbs / b.natAbs + 1)
      have hn2 := hHN (decide (b < 0)) (b.natAbs - a.natAbs % b.natAbs)
      rw [sgnR_sign, hs] at hn2
      rw [neg_nat_sign] at hn1
      have hl1 := fun W => limbsOf_any 1 (by omega) W
      have hc1 := fun W s1 s2 (k1 : Lim W s1 (dig (a.natAbs / b.natAbs))) (k2 : Lim W s2 (dig 1)) => combine_any s1 s2 (dig (a.natAbs / b.natAbs)) (dig 1) 1 1 (dig_Lm _) (dig_Lm _) (hrl _ (.inl hq1)) (by rw [e1]; simp) (by omega) (by omega) (by omega) (by omega) (by omega) W k1 k2
      rw [val_dig, val_dig, show (((a.natAbs / b.natAbs : Nat) : Int) * 1 + ((1 : Nat) : Int) * 1).toNat = a.natAbs / b.natAbs + 1 by generalize a.natAbs / b.natAbs = Q; omega] at hc1
      have hc2 := fun W s2 (hW : Below w.heap.size w W) (k2 : Lim W s2 (dig (a.natAbs % b.natAbs))) => combine_any s' s2 (dig b.natAbs) (dig (a.natAbs % b.natAbs)) 1 (-1) (dig_Lm _) (dig_Lm _) (by omega) (hrl _ (.inr (by omega))) (by omega) (by omega) (by omega) (by omega) (by rw [val_dig, val_dig]; omega) W (g.below hW (Nat.le_refl _)) k2
      rw [val_dig, val_dig, show ((b.natAbs : Int) * 1 + ((a.natAbs % b.natAbs : Nat) : Int) * (-1)).toNat = b.natAbs - a.natAbs % b.natAbs by generalize a.natAbs % b.natAbs = R at hlt ⊢; omega] at hc2
      rw [hs] at hw1 ⊢
      obtain ⟨aa, ca, rfl⟩ := lim_slice h
      obtain ⟨ab, cb, rfl⟩ := lim_slice g
      refine (divmod_adjust _ _ _ aa ab _ ca _ cb _ _ _ _ (dig_pos_len (by omega)) (by have := dig_pos_len hR; omega) w (Lib.hid hw1) (Lib.hid hw2) (Lib.hid hl1) (Lib.hid hc1) (Lib.hid hc2) (Lib.hid hn1) (Lib.hid hn2)).mono ?_
      rintro e w' ⟨⟨sq, sr, rfl, hq, hr⟩, hb⟩
      exact ⟨⟨_, _, _, _, rfl, hd, ⟨sq, rfl, by rw [Int.natAbs_neg, Int.natAbs_natCast]; exact hq⟩, ⟨sr, rfl, by rw [sgnR_abs]; exact hr⟩⟩, hb⟩
end Go.Proofs.YtmbcnfogjncdaaaGreat
namespace Wt
def val : List Nat → Nat
 | [] => 0
 | x :: l => x + 10 * val l
def dig (n : Nat) : List Nat := if h : n = 0 then [] else (n % 10) :: dig (n / 10)
termination_by n
decreasing_by omega
def Lm (l : List Nat) : Prop := ∀ x ∈ l, x < 10
@[simp] theorem val_nil : val [] = 0 := rfl
theorem val_cons (x : Nat) (l : List Nat) : val (x :: l) = x + 10 * val l := rfl
theorem dig_zero : dig 0 = [] := by rw [dig]; simp
theorem dig_pos {n : Nat} (h : n ≠ 0) : dig n = (n % 10) :: dig (n / 10) := by rw [dig]; simp [h]
theorem Lm.nil : Lm [] := fun x h => by simp at h
theorem Lm.cons {x : Nat} {l : List Nat} (h : x < 10) (hl : Lm l) : Lm (x :: l) := fun y hy => by
 rcases List.mem_cons.1 hy with rfl | hy
 · exact h
 · exact hl y hy
theorem Lm.head {x : Nat} {l : List Nat} (h : Lm (x :: l)) : x < 10 := h x (by simp)
theorem Lm.tail {x : Nat} {l : List Nat} (h : Lm (x :: l)) : Lm l := fun y hy => h y (by simp [hy])
theorem Lm.append {a b : List Nat} (ha : Lm a) (hb : Lm b) : Lm (a ++ b) := fun y hy => by
 rcases List.mem_append.1 hy with hy | hy
 · exact ha y hy
 · exact hb y hy
theorem Lm.take {l : List Nat} (h : Lm l) (k : Nat) : Lm (l.take k) := fun y hy => h y (List.mem_of_mem_take hy)
theorem Lm.drop {l : List Nat} (h : Lm l) (k : Nat) : Lm (l.drop k) := fun y hy => h y (List.mem_of_mem_drop hy)
theorem Lm.getD {l : List Nat} (h : Lm l) (i : Nat) : l[i]?.getD 0 < 10 := by
 cases hi : l[i]? with
 | none => simp
 | some v => simpa using h v (List.mem_of_getElem? hi)
theorem Lm.set {l : List Nat} (h : Lm l) (i : Nat) {x : Nat} (hx : x < 10) : Lm (l.set i x) := fun y hy => by
 rcases List.mem_or_eq_of_mem_set hy with hy | rfl
 · exact h y hy
 · exact hx
theorem val_append (a b : List Nat) : val (a ++ b) = val a + 10 ^ a.length * val b := by
 induction a with
 | nil => simp
 | cons x a ih =>
  simp only [List.cons_append, val_cons, ih, List.length_cons, Nat.pow_succ, Nat.mul_add]
  have : 10 * (10 ^ a.length * val b) = 10 ^ a.length * 10 * val b := by
   rw [← Nat.mul_assoc, Nat.mul_comm 10]
  omega
theorem val_lt {l : List Nat} (h : Lm l) : val l < 10 ^ l.length := by
 induction l with
 | nil => simp
 | cons x l ih =>
  have := ih h.tail
  have := h.head
  simp only [val_cons, List.length_cons, Nat.pow_succ]
  omega
theorem val_dig (n : Nat) : val (dig n) = n := by
 induction n using Nat.strongRecOn with
 | ind n ih =>
  by_cases h : n = 0
  · subst h; rw [dig_zero]; rfl
  · rw [dig_pos h, val_cons, ih _ (by omega)]; omega
theorem dig_Lm (n : Nat) : Lm (dig n) := by
 induction n using Nat.strongRecOn with
 | ind n ih =>
  by_cases h : n = 0
  · subst h; rw [dig_zero]; exact .nil
  · rw [dig_pos h]; exact .cons (by omega) (ih _ (by omega))
theorem dig_nil_iff (n : Nat) : dig n = [] ↔ n = 0 := by
 constructor
 · intro h; have := val_dig n; rw [h] at this; simpa using this.symm
 · rintro rfl; exact dig_zero
theorem dig_last (n : Nat) (h : dig n ≠ []) : (dig n).getLast h ≠ 0 := by
  induction n using Nat.strongRecOn with
  | ind n ih =>
    have h0 : n ≠ 0 := fun e => h (by rw [e, dig_zero])
    by_cases h1 : n / 10 = 0
    · have e : dig n = [n % 10] := by rw [dig_pos h0, h1, dig_zero]
      simp only [e, List.getLast_singleton]; omega
    · have hne : dig (n / 10) ≠ [] := fun e => h1 ((dig_nil_iff _).1 e)
      have := ih (n / 10) (by omega) hne
      simp only [dig_pos h0, List.getLast_cons hne]
      exact this
theorem dig_val {l : List Nat} (h : Lm l) (hl : ∀ hne : l ≠ [], l.getLast hne ≠ 0) : dig (val l) = l := by
 induction l with
 | nil => simp [dig_zero]
 | cons x l ih =>
  have hx := h.head
  have hv : val (x :: l) ≠ 0 := by
   rw [val_cons]
   cases l with
   | nil => have := hl (by simp); simp at this; simp; omega
   | cons y t =>
    have h2 : dig (val (y :: t)) = y :: t := ih h.tail (fun hne => by have := hl (by simp); rwa [List.getLast_cons hne] at this)
    have h3 : val (y :: t) ≠ 0 := fun e => by rw [e, dig_zero] at h2; cases h2
    omega
  rw [dig_pos hv, val_cons]
  have e1 : (x + 10 * val l) % 10 = x := by omega
  have e2 : (x + 10 * val l) / 10 = val l := by omega
  rw [e1, e2, ih h.tail]
  intro hne
  have := hl (by simp)
  rwa [List.getLast_cons hne] at this
theorem val_replicate_zero (n : Nat) : val (List.replicate n 0) = 0 := by
 induction n with
 | zero => rfl
 | succ n ih => rw [List.replicate_succ, val_cons, ih]
theorem dig_snoc {l : List Nat} {x : Nat} (h : Lm l) (hx : x < 10) (h0 : x ≠ 0) : dig (val (l ++ [x])) = l ++ [x] :=
 dig_val (h.append (.cons hx .nil)) (fun hne => by simpa using h0)
theorem length_dig_le (n k : Nat) : (dig n).length ≤ k ↔ n < 10 ^ k := by
  induction k generalizing n with
  | zero =>
    simp only [Nat.le_zero, List.length_eq_zero_iff, dig_nil_iff]; omega
  | succ k ih =>
    by_cases h : n = 0
    · subst h; rw [dig_zero]; simp; exact Nat.pos_of_ne_zero (by simp)
    · rw [dig_pos h, List.length_cons, Nat.succ_le_succ_iff, ih, Nat.pow_succ]
      constructor
      · intro h; omega
      · intro h; exact Nat.div_lt_of_lt_mul (by rw [Nat.mul_comm]; exact h)
theorem lt_pow_length (n : Nat) : n < 10 ^ (dig n).length := (length_dig_le n _).1 (Nat.le_refl _)
theorem pow_le_of_length {n k : Nat} (h : k < (dig n).length) : 10 ^ k ≤ n := by
 by_cases hn : n < 10 ^ k
 · have := (length_dig_le n k).2 hn; omega
 · omega
theorem length_dig_mono {m n : Nat} (h : m ≤ n) : (dig m).length ≤ (dig n).length := by
 rw [length_dig_le]; have := lt_pow_length n; omega
theorem val_take_drop (l : List Nat) (i : Nat) : val l = val (l.take i) + 10 ^ (min i l.length) * val (l.drop i) := by
 rw [← List.length_take, ← val_append, List.take_append_drop]
theorem getD_lt_length {l : List Nat} {i : Nat} (h : i < l.length) : l[i]?.getD 0 = l[i] := by simp [h]
theorem val_take_succ {l : List Nat} {k : Nat} (h : k < l.length) : val (l.take (k + 1)) = val (l.take k) + 10 ^ k * (l[k]?.getD 0) := by
 rw [List.take_succ_eq_append_getElem h, val_append, List.length_take, Nat.min_eq_left (by omega), getD_lt_length h]
 simp [val_cons]
theorem val_drop_succ {l : List Nat} {k : Nat} (h : k < l.length) : val (l.drop k) = l[k]?.getD 0 + 10 * val (l.drop (k + 1)) := by
 rw [List.drop_eq_getElem_cons h, val_cons, getD_lt_length h]
theorem val_inj {a b : List Nat} (ha : Lm a) (hb : Lm b) (hl : a.length = b.length) (hv : val a = val b) : a = b := by
  induction a generalizing b with
  | nil => cases b with
    | nil => rfl
    | cons => simp at hl
  | cons x a ih => cases b with
    | nil => simp at hl
    | cons y b =>
      have h1 := ha.head; have h2 := hb.head
      simp only [val_cons] at hv
      have e : x = y := by omega
      subst e
      rw [ih ha.tail hb.tail (by simpa using hl) (by omega)]
theorem val_zero_iff {l : List Nat} : val l = 0 ↔ ∀ x ∈ l, x = 0 := by
 induction l with
 | nil => simp
 | cons x l ih =>
  simp only [val_cons, List.mem_cons, forall_eq_or_imp, ← ih]
  omega
theorem val_set {l : List Nat} {i x : Nat} (h : i < l.length) (h0 : l[i]?.getD 0 = 0) : val (l.set i x) = val l + 10 ^ i * x := by
 induction l generalizing i with
 | nil => simp at h
 | cons y l ih =>
  cases i with
  | zero => simp at h0; subst h0; simp [val_cons]; omega
  | succ i =>
   simp only [List.set_cons_succ, val_cons, ih (by simpa using h) (by simpa using h0), Nat.pow_succ]
   have : 10 * (10 ^ i * x) = 10 ^ i * 10 * x := by rw [← Nat.mul_assoc, Nat.mul_comm 10]
   omega
theorem val_high_zero {l : List Nat} (k : Nat) (h : ∀ j, k ≤ j → j < l.length → l[j]?.getD 0 = 0) : val l = val (l.take k) := by
 rw [val_take_drop l k]
 have : val (l.drop k) = 0 := val_zero_iff.2 fun x hx => by
  obtain ⟨i, hi, rfl⟩ := List.mem_iff_getElem.1 hx
  simp at hi
  have := h (k + i) (by omega) (by omega)
  rw [List.getElem_drop]
  rw [getD_lt_length (by omega)] at this
  exact this
 rw [this]; simp
theorem dig_of_top {l : List Nat} (hl : Lm l) {m : Nat} (hm : m < l.length) (h0 : l[m]?.getD 0 ≠ 0) (h : ∀ j, m < j → j < l.length → l[j]?.getD 0 = 0) : dig (val l) = l.take (m + 1) := by
 rw [val_high_zero (m + 1) (fun j h1 h2 => h j (by omega) h2), List.take_succ_eq_append_getElem hm]
 rw [getD_lt_length hm] at h0
 exact dig_snoc (hl.take m) (hl _ (List.getElem_mem hm)) h0
theorem dig_of_zero {l : List Nat} (h : ∀ j, j < l.length → l[j]?.getD 0 = 0) : dig (val l) = [] := by
 rw [val_high_zero 0 (fun j _ h2 => h j h2)]; simp [dig_zero]
end Wt
