/-
'DivMod'.
-/
import Derived.Test.YtodmbklednehbaaToInt
import Derived.Outline
namespace Go.Proofs.Ytodmbklednehbaa
open Go.RowKit Wh

set_option maxRecDepth 100000 in
set_option maxHeartbeats 2000000 in
theorem divmod_bad (na nb : Bool) (aa ab : Option Addr) (ja ca jb cb : Nat) (w : World)
    (HW1 : Hid (∀ B W, Row2 W B na (.slice aa ja ca) nb (.slice ab jb cb) → Below w.heap.size w W → Calls Try.prog 48 #[.slice (some ⟨B, 0, none⟩) 2 2] W fun e w' => e = .returned (.bool false) ∧ Below W.heap.size W w')) :
    Calls Try.prog 29 #[.agg #[.bool na, .slice aa ja ca], .agg #[.bool nb, .slice ab jb cb]] w fun e w' => e = .returned (.tuple #[zeroW, zeroW, .int .i64 2]) ∧ Below w.heap.size w w' := by
  have hz := (((((Below.refl w.heap.size w).alloc (Nat.le_refl _) (.cells #[.bool na, .slice aa ja ca] 26)).alloc (by simp) (.cells #[.bool nb, .slice ab jb cb] 26)).alloc (by simp <;> omega) (.cells #[.bool false, .slice none 0 0] 26)).alloc (by simp <;> omega) (.cells #[.bool false, .slice none 0 0] 26)).alloc (by simp <;> omega) (.cells #[.bool na, .slice aa ja ca, .bool nb, .slice ab jb cb] 26)
  have x2 := ((((Bx.new w (.bool na) (.slice aa ja ca)).alloc (.cells #[.bool nb, .slice ab jb cb] 26)).alloc (.cells #[.bool false, .slice none 0 0] 26)).alloc (.cells #[.bool false, .slice none 0 0] 26)).alloc (.cells #[.bool na, .slice aa ja ca, .bool nb, .slice ab jb cb] 26)
  have x3 := (((Bx.new (w.alloc (.cells #[.bool na, .slice aa ja ca] 26)) (.bool nb) (.slice ab jb cb)).alloc (.cells #[.bool false, .slice none 0 0] 26)).alloc (.cells #[.bool false, .slice none 0 0] 26)).alloc (.cells #[.bool na, .slice aa ja ca, .bool nb, .slice ab jb cb] 26)
  have x4 := ((Bx.new ((w.alloc (.cells #[.bool na, .slice aa ja ca] 26)).alloc (.cells #[.bool nb, .slice ab jb cb] 26)) (.bool false) (.slice none 0 0)).alloc (.cells #[.bool false, .slice none 0 0] 26)).alloc (.cells #[.bool na, .slice aa ja ca, .bool nb, .slice ab jb cb] 26)
  have x5 := (Bx.new (((w.alloc (.cells #[.bool na, .slice aa ja ca] 26)).alloc (.cells #[.bool nb, .slice ab jb cb] 26)).alloc (.cells #[.bool false, .slice none 0 0] 26)) (.bool false) (.slice none 0 0)).alloc (.cells #[.bool na, .slice aa ja ca, .bool nb, .slice ab jb cb] 26)
  have hr := row2_new ((((w.alloc (.cells #[.bool na, .slice aa ja ca] 26)).alloc (.cells #[.bool nb, .slice ab jb cb] 26)).alloc (.cells #[.bool false, .slice none 0 0] 26)).alloc (.cells #[.bool false, .slice none 0 0] 26)) na (.slice aa ja ca) nb (.slice ab jb cb)
  simp only [World.size_alloc] at x3 x4 x5 hr
  have HR := Lib.hid hr
  clear hr
  go_enter Try.func29, Try.ntmps29
  go_wp2_with (go_at_call 48; refine (HW1.out _ _ HR.out hz).mono ?_; rintro e w1 ⟨rfl, hb1⟩; have hB1 := hz.trans (hb1.mono hz.size); have hs1 := hb1.size; simp only [World.size_alloc] at hs1; have y2 := x2.on hb1; have y3 := x3.on hb1; have y4 := x4.on hb1; have y5 := x5.on hb1; obtain ⟨p2, p2'⟩ := y2.cells; obtain ⟨p3, p3'⟩ := y3.cells; obtain ⟨p4, p4'⟩ := y4.cells; obtain ⟨p5, p5'⟩ := y5.cells; obtain ⟨f4, f4'⟩ := y4.free; obtain ⟨f5, f5'⟩ := y5.free)
  have n45 : w.heap.size + 1 + 1 + 1 ≠ w.heap.size + 1 + 1 := by omega
  have k4 := ((y4.put (.bool false) (.slice none 0 0)).put_other (.bool false) (.slice none 0 0) n45).cells
  have k5 := ((y5.put_other (.bool false) (.slice none 0 0) (Ne.symm n45)).put (.bool false) (.slice none 0 0)).cells
  exact bodyPost_ret (v := .tuple #[zeroW, zeroW, .int .i64 2]) (by simp [results, Try.results29, go_sem, k4.1, k4.2, k5.1, k5.2]) rfl ⟨rfl, Below.put (Below.put hB1 (by omega) _ _) (by omega) _ _⟩

set_option maxRecDepth 100000 in
set_option maxHeartbeats 2000000 in
theorem divmod_zero (na nb : Bool) (aa ab : Option Addr) (ja ca cb : Nat) (w : World)
    (HW1 : Hid (∀ B W, Row2 W B na (.slice aa ja ca) nb (.slice ab 0 cb) → Below w.heap.size w W → Calls Try.prog 48 #[.slice (some ⟨B, 0, none⟩) 2 2] W fun e w' => e = .returned (.bool true) ∧ Below W.heap.size W w')) :
    Calls Try.prog 29 #[.agg #[.bool na, .slice aa ja ca], .agg #[.bool nb, .slice ab 0 cb]] w fun e w' => e = .returned (.tuple #[zeroW, zeroW, .int .i64 11]) ∧ Below w.heap.size w w' := by
  have hz := (((((Below.refl w.heap.size w).alloc (Nat.le_refl _) (.cells #[.bool na, .slice aa ja ca] 26)).alloc (by simp) (.cells #[.bool nb, .slice ab 0 cb] 26)).alloc (by simp <;> omega) (.cells #[.bool false, .slice none 0 0] 26)).alloc (by simp <;> omega) (.cells #[.bool false, .slice none 0 0] 26)).alloc (by simp <;> omega) (.cells #[.bool na, .slice aa ja ca, .bool nb, .slice ab 0 cb] 26)
  have x2 := ((((Bx.new w (.bool na) (.slice aa ja ca)).alloc (.cells #[.bool nb, .slice ab 0 cb] 26)).alloc (.cells #[.bool false, .slice none 0 0] 26)).alloc (.cells #[.bool false, .slice none 0 0] 26)).alloc (.cells #[.bool na, .slice aa ja ca, .bool nb, .slice ab 0 cb] 26)
  have x3 := (((Bx.new (w.alloc (.cells #[.bool na, .slice aa ja ca] 26)) (.bool nb) (.slice ab 0 cb)).alloc (.cells #[.bool false, .slice none 0 0] 26)).alloc (.cells #[.bool false, .slice none 0 0] 26)).alloc (.cells #[.bool na, .slice aa ja ca, .bool nb, .slice ab 0 cb] 26)
  have x4 := ((Bx.new ((w.alloc (.cells #[.bool na, .slice aa ja ca] 26)).alloc (.cells #[.bool nb, .slice ab 0 cb] 26)) (.bool false) (.slice none 0 0)).alloc (.cells #[.bool false, .slice none 0 0] 26)).alloc (.cells #[.bool na, .slice aa ja ca, .bool nb, .slice ab 0 cb] 26)
  have x5 := (Bx.new (((w.alloc (.cells #[.bool na, .slice aa ja ca] 26)).alloc (.cells #[.bool nb, .slice ab 0 cb] 26)).alloc (.cells #[.bool false, .slice none 0 0] 26)) (.bool false) (.slice none 0 0)).alloc (.cells #[.bool na, .slice aa ja ca, .bool nb, .slice ab 0 cb] 26)
  have hr := row2_new ((((w.alloc (.cells #[.bool na, .slice aa ja ca] 26)).alloc (.cells #[.bool nb, .slice ab 0 cb] 26)).alloc (.cells #[.bool false, .slice none 0 0] 26)).alloc (.cells #[.bool false, .slice none 0 0] 26)) na (.slice aa ja ca) nb (.slice ab 0 cb)
  simp only [World.size_alloc] at x3 x4 x5 hr
  have HR := Lib.hid hr
  clear hr
  go_enter Try.func29, Try.ntmps29
  go_wp2_with (go_at_call 48; refine (HW1.out _ _ HR.out hz).mono ?_; rintro e w1 ⟨rfl, hb1⟩; have hB1 := hz.trans (hb1.mono hz.size); have hs1 := hb1.size; simp only [World.size_alloc] at hs1; have y2 := x2.on hb1; have y3 := x3.on hb1; have y4 := x4.on hb1; have y5 := x5.on hb1; obtain ⟨p2, p2'⟩ := y2.cells; obtain ⟨p3, p3'⟩ := y3.cells; obtain ⟨p4, p4'⟩ := y4.cells; obtain ⟨p5, p5'⟩ := y5.cells; obtain ⟨f4, f4'⟩ := y4.free; obtain ⟨f5, f5'⟩ := y5.free)
  have n45 : w.heap.size + 1 + 1 + 1 ≠ w.heap.size + 1 + 1 := by omega
  have k4 := ((y4.put (.bool false) (.slice none 0 0)).put_other (.bool false) (.slice none 0 0) n45).cells
  have k5 := ((y5.put_other (.bool false) (.slice none 0 0) (Ne.symm n45)).put (.bool false) (.slice none 0 0)).cells
  exact bodyPost_ret (v := .tuple #[zeroW, zeroW, .int .i64 11]) (by simp [results, Try.results29, go_sem, k4.1, k4.2, k5.1, k5.2]) rfl ⟨rfl, Below.put (Below.put hB1 (by omega) _ _) (by omega) _ _⟩

set_option maxRecDepth 100000 in
set_option maxHeartbeats 2000000 in
theorem divmod_same (na nq nr : Bool) (aa ab : Option Addr) (ja ca jb cb Q0 R0   : Nat) (hjb : 0 < jb) (w : World)
    (HW1 : Hid (∀ B W, Row2 W B na (.slice aa ja ca) na (.slice ab jb cb) → Below w.heap.size w W → Calls Try.prog 48 #[.slice (some ⟨B, 0, none⟩) 2 2] W fun e w' => e = .returned (.bool true) ∧ Below W.heap.size W w'))
    (HW2 : Hid (∀ W, Below w.heap.size w W → Calls Try.prog 56 #[.slice aa ja ca, .slice ab jb cb] W fun e w' => (∃ vq vr, e = .returned (.tuple #[vq, vr]) ∧ LimF W.heap.size w' vq (dig Q0) ∧ LimF W.heap.size w' vr (dig R0)) ∧ Below W.heap.size W w'))
    (HN1 : Hid (∀ W s, Lim W s (dig Q0) → Calls Try.prog 52 #[.bool false, s] W fun e w' => e = .returned (.agg #[.bool nq, s]) ∧ Below W.heap.size W w'))
    (HN2 : Hid (∀ W s, Lim W s (dig R0) → Calls Try.prog 52 #[.bool na, s] W fun e w' => e = .returned (.agg #[.bool nr, s]) ∧ Below W.heap.size W w')) :
    Calls Try.prog 29 #[.agg #[.bool na, .slice aa ja ca], .agg #[.bool na, .slice ab jb cb]] w fun e w' =>
      (∃ sq sr, e = .returned (.tuple #[.agg #[.bool nq, sq], .agg #[.bool nr, sr], .int .i64 0]) ∧ LimF w.heap.size w' sq (dig Q0) ∧ LimF w.heap.size w' sr (dig R0)) ∧ Below w.heap.size w w' := by
  have hjb0 : ((jb : Int) == 0) = false := by simp; omega
  have n45 : w.heap.size + 1 + 1 + 1 ≠ w.heap.size + 1 + 1 := by omega
  have n42 : w.heap.size + 1 + 1 ≠ w.heap.size := by omega
  have n43 : w.heap.size + 1 + 1 ≠ w.heap.size + 1 := by omega
  have n52 : w.heap.size + 1 + 1 + 1 ≠ w.heap.size := by omega
  have n53 : w.heap.size + 1 + 1 + 1 ≠ w.heap.size + 1 := by omega
  have hz := (((((Below.refl w.heap.size w).alloc (Nat.le_refl _) (.cells #[.bool na, .slice aa ja ca] 26)).alloc (by simp) (.cells #[.bool na, .slice ab jb cb] 26)).alloc (by simp <;> omega) (.cells #[.bool false, .slice none 0 0] 26)).alloc (by simp <;> omega) (.cells #[.bool false, .slice none 0 0] 26)).alloc (by simp <;> omega) (.cells #[.bool na, .slice aa ja ca, .bool na, .slice ab jb cb] 26)
  have x2 := ((((Bx.new w (.bool na) (.slice aa ja ca)).alloc (.cells #[.bool na, .slice ab jb cb] 26)).alloc (.cells #[.bool false, .slice none 0 0] 26)).alloc (.cells #[.bool false, .slice none 0 0] 26)).alloc (.cells #[.bool na, .slice aa ja ca, .bool na, .slice ab jb cb] 26)
  have x3 := (((Bx.new (w.alloc (.cells #[.bool na, .slice aa ja ca] 26)) (.bool na) (.slice ab jb cb)).alloc (.cells #[.bool false, .slice none 0 0] 26)).alloc (.cells #[.bool false, .slice none 0 0] 26)).alloc (.cells #[.bool na, .slice aa ja ca, .bool na, .slice ab jb cb] 26)
  have x4 := ((Bx.new ((w.alloc (.cells #[.bool na, .slice aa ja ca] 26)).alloc (.cells #[.bool na, .slice ab jb cb] 26)) (.bool false) (.slice none 0 0)).alloc (.cells #[.bool false, .slice none 0 0] 26)).alloc (.cells #[.bool na, .slice aa ja ca, .bool na, .slice ab jb cb] 26)
  have x5 := (Bx.new (((w.alloc (.cells #[.bool na, .slice aa ja ca] 26)).alloc (.cells #[.bool na, .slice ab jb cb] 26)).alloc (.cells #[.bool false, .slice none 0 0] 26)) (.bool false) (.slice none 0 0)).alloc (.cells #[.bool na, .slice aa ja ca, .bool na, .slice ab jb cb] 26)
  have hr := row2_new ((((w.alloc (.cells #[.bool na, .slice aa ja ca] 26)).alloc (.cells #[.bool na, .slice ab jb cb] 26)).alloc (.cells #[.bool false, .slice none 0 0] 26)).alloc (.cells #[.bool false, .slice none 0 0] 26)) na (.slice aa ja ca) na (.slice ab jb cb)
  simp only [World.size_alloc] at x3 x4 x5 hr
  have HR := Lib.hid hr
  clear hr
  go_enter Try.func29, Try.ntmps29
  go_wp2_with (first
    | (go_at_call 48; refine (HW1.out _ _ HR.out hz).mono ?_; rintro e w1 ⟨rfl, hb1⟩; have hB1 := hz.trans (hb1.mono hz.size); have hs1 := hb1.size; simp only [World.size_alloc] at hs1; have y2 := x2.on hb1; have y3 := x3.on hb1; have y4 := x4.on hb1; have y5 := x5.on hb1; obtain ⟨p2, p2'⟩ := y2.cells; obtain ⟨p3, p3'⟩ := y3.cells; obtain ⟨p4, p4'⟩ := y4.cells; obtain ⟨p5, p5'⟩ := y5.cells; obtain ⟨f4, f4'⟩ := y4.free; obtain ⟨f5, f5'⟩ := y5.free)
    | (go_at_call 56; refine (HW2.out _ hB1).mono ?_; rintro e w2 ⟨⟨vq, vr, rfl, hq, hr0⟩, hb2⟩; obtain ⟨aq, cq, rfl⟩ := lf_slice hq; obtain ⟨ar, cr, rfl⟩ := lf_slice hr0; have hB2 := hB1.trans (hb2.mono hB1.size); have hs2 := Nat.le_trans hs1 hb2.size; have z2 := y2.on hb2; have z3 := y3.on hb2; have z4 := y4.on hb2; have z5 := y5.on hb2; obtain ⟨q2, q2'⟩ := z2.cells; obtain ⟨q3, q3'⟩ := z3.cells))
  have HLQF := hq.below (Below.refl w2.heap.size w2).drew
  have HLQ := HLQF.1
  have HLR := hr0.below (Below.refl w2.heap.size w2).drew
  have HBM := hB2
  have ZM2 := z2
  have ZM3 := z3
  have ZM4 := z4
  have ZM5 := z5
  have HSM := hs1
  go_region_held3 (fun w' => w'.cell? ⟨w.heap.size, 0, none⟩ = some (.bool na) ∧ w'.cell? ⟨w.heap.size + 1, 0, none⟩ = some (.bool na))
    (first | go_keep | exact ⟨cell_store c2 n42, cell_store c3 n43⟩ | exact ⟨cell_store (cell_store c2 n42) n52, cell_store (cell_store c3 n43) n53⟩)
    (first
    | (go_at_call_of 52 (Value.slice aq (dig Q0).length cq); refine (HN1.out _ _ HLQ).mono ?_; rintro e w6 ⟨rfl, hb6⟩; have hB6 := HBM.drew.trans (hb6.mono HBM.size); have u2 := ZM2.ond hb6; have u3 := ZM3.ond hb6; have u4 := ZM4.ond hb6; have u5 := ZM5.ond hb6; obtain ⟨b2, b2'⟩ := u2.cells; obtain ⟨b3, b3'⟩ := u3.cells; have HLR6 := HLR.below hb6)
    | (go_at_call_of 52 (Value.slice ar (dig R0).length cr); refine (HN2.out _ _ HLR6.1).mono ?_; rintro e w7 ⟨rfl, hb7⟩; have hB7 := hB6.trans (hb7.mono hB6.size); have v2 := u2.on hb7; have v3 := u3.on hb7; have v4 := u4.on hb7; have v5 := u5.on hb7; obtain ⟨c2, c2'⟩ := v2.cells; obtain ⟨c3, c3'⟩ := v3.cells; obtain ⟨c4, c4'⟩ := v4.cells; obtain ⟨c5, c5'⟩ := v5.cells; obtain ⟨e4, e4'⟩ := v4.free; obtain ⟨e5, e5'⟩ := v5.free))
  go_wp2
  have k4 := ((v4.put (.bool nq) (.slice aq (dig Q0).length cq)).put_other (.bool nr) (.slice ar (dig R0).length cr) n45).cells
  have k5 := ((v5.put_other (.bool nq) (.slice aq (dig Q0).length cq) (Ne.symm n45)).put (.bool nr) (.slice ar (dig R0).length cr)).cells
  have hlq := (((HLQF.below hb6).below hb7).put (B' := w.heap.size + 1 + 1) (Nat.lt_of_lt_of_le (by omega) HSM) (.bool nq) (.slice aq (dig Q0).length cq)).put (B' := w.heap.size + 1 + 1 + 1) (Nat.lt_of_lt_of_le (by omega) HSM) (.bool nr) (.slice ar (dig R0).length cr)
  have hlr := ((HLR6.below hb7).put (B' := w.heap.size + 1 + 1) (Nat.lt_of_lt_of_le (by omega) HSM) (.bool nq) (.slice aq (dig Q0).length cq)).put (B' := w.heap.size + 1 + 1 + 1) (Nat.lt_of_lt_of_le (by omega) HSM) (.bool nr) (.slice ar (dig R0).length cr)
  exact bodyPost_ret (v := .tuple #[.agg #[.bool nq, .slice aq (dig Q0).length cq], .agg #[.bool nr, .slice ar (dig R0).length cr], .int .i64 0]) (by simp [results, Try.results29, go_sem, k4.1, k4.2, k5.1, k5.2]) rfl
    ⟨⟨_, _, rfl, hlq.mono (Nat.le_trans (by omega) HSM), hlr.mono (Nat.le_trans (by omega) HSM)⟩, Below.put (Below.put hB7 (by omega) _ _) (by omega) _ _⟩

set_option maxRecDepth 100000 in
set_option maxHeartbeats 2000000 in
theorem divmod_even (na nq nr : Bool) (aa ab : Option Addr) (ja ca jb cb Q0 R0   : Nat) (hjb : 0 < jb) (hr00 : ¬ (0 < ((dig R0).length : Int))) (w : World)
    (HW1 : Hid (∀ B W, Row2 W B na (.slice aa ja ca) (!na) (.slice ab jb cb) → Below w.heap.size w W → Calls Try.prog 48 #[.slice (some ⟨B, 0, none⟩) 2 2] W fun e w' => e = .returned (.bool true) ∧ Below W.heap.size W w'))
    (HW2 : Hid (∀ W, Below w.heap.size w W → Calls Try.prog 56 #[.slice aa ja ca, .slice ab jb cb] W fun e w' => (∃ vq vr, e = .returned (.tuple #[vq, vr]) ∧ LimF W.heap.size w' vq (dig Q0) ∧ LimF W.heap.size w' vr (dig R0)) ∧ Below W.heap.size W w'))
    (HN1 : Hid (∀ W s, Lim W s (dig Q0) → Calls Try.prog 52 #[.bool true, s] W fun e w' => e = .returned (.agg #[.bool nq, s]) ∧ Below W.heap.size W w'))
    (HN2 : Hid (∀ W s, Lim W s (dig R0) → Calls Try.prog 52 #[.bool (!na), s] W fun e w' => e = .returned (.agg #[.bool nr, s]) ∧ Below W.heap.size W w')) :
    Calls Try.prog 29 #[.agg #[.bool na, .slice aa ja ca], .agg #[.bool (!na), .slice ab jb cb]] w fun e w' =>
      (∃ sq sr, e = .returned (.tuple #[.agg #[.bool nq, sq], .agg #[.bool nr, sr], .int .i64 0]) ∧ LimF w.heap.size w' sq (dig Q0) ∧ LimF w.heap.size w' sr (dig R0)) ∧ Below w.heap.size w w' := by
  have hjb0 : ((jb : Int) == 0) = false := by simp; omega
  have n45 : w.heap.size + 1 + 1 + 1 ≠ w.heap.size + 1 + 1 := by omega
  have n42 : w.heap.size + 1 + 1 ≠ w.heap.size := by omega
  have n43 : w.heap.size + 1 + 1 ≠ w.heap.size + 1 := by omega
  have n52 : w.heap.size + 1 + 1 + 1 ≠ w.heap.size := by omega
  have n53 : w.heap.size + 1 + 1 + 1 ≠ w.heap.size + 1 := by omega
  have hz := (((((Below.refl w.heap.size w).alloc (Nat.le_refl _) (.cells #[.bool na, .slice aa ja ca] 26)).alloc (by simp) (.cells #[.bool (!na), .slice ab jb cb] 26)).alloc (by simp <;> omega) (.cells #[.bool false, .slice none 0 0] 26)).alloc (by simp <;> omega) (.cells #[.bool false, .slice none 0 0] 26)).alloc (by simp <;> omega) (.cells #[.bool na, .slice aa ja ca, .bool (!na), .slice ab jb cb] 26)
  have x2 := ((((Bx.new w (.bool na) (.slice aa ja ca)).alloc (.cells #[.bool (!na), .slice ab jb cb] 26)).alloc (.cells #[.bool false, .slice none 0 0] 26)).alloc (.cells #[.bool false, .slice none 0 0] 26)).alloc (.cells #[.bool na, .slice aa ja ca, .bool (!na), .slice ab jb cb] 26)
  have x3 := (((Bx.new (w.alloc (.cells #[.bool na, .slice aa ja ca] 26)) (.bool (!na)) (.slice ab jb cb)).alloc (.cells #[.bool false, .slice none 0 0] 26)).alloc (.cells #[.bool false, .slice none 0 0] 26)).alloc (.cells #[.bool na, .slice aa ja ca, .bool (!na), .slice ab jb cb] 26)
  have x4 := ((Bx.new ((w.alloc (.cells #[.bool na, .slice aa ja ca] 26)).alloc (.cells #[.bool (!na), .slice ab jb cb] 26)) (.bool false) (.slice none 0 0)).alloc (.cells #[.bool false, .slice none 0 0] 26)).alloc (.cells #[.bool na, .slice aa ja ca, .bool (!na), .slice ab jb cb] 26)
  have x5 := (Bx.new (((w.alloc (.cells #[.bool na, .slice aa ja ca] 26)).alloc (.cells #[.bool (!na), .slice ab jb cb] 26)).alloc (.cells #[.bool false, .slice none 0 0] 26)) (.bool false) (.slice none 0 0)).alloc (.cells #[.bool na, .slice aa ja ca, .bool (!na), .slice ab jb cb] 26)
  have hr := row2_new ((((w.alloc (.cells #[.bool na, .slice aa ja ca] 26)).alloc (.cells #[.bool (!na), .slice ab jb cb] 26)).alloc (.cells #[.bool false, .slice none 0 0] 26)).alloc (.cells #[.bool false, .slice none 0 0] 26)) na (.slice aa ja ca) (!na) (.slice ab jb cb)
  simp only [World.size_alloc] at x3 x4 x5 hr
  have HR := Lib.hid hr
  clear hr
  go_enter Try.func29, Try.ntmps29
  go_wp2_with (first
    | (go_at_call 48; refine (HW1.out _ _ HR.out hz).mono ?_; rintro e w1 ⟨rfl, hb1⟩; have hB1 := hz.trans (hb1.mono hz.size); have hs1 := hb1.size; simp only [World.size_alloc] at hs1; have y2 := x2.on hb1; have y3 := x3.on hb1; have y4 := x4.on hb1; have y5 := x5.on hb1; obtain ⟨p2, p2'⟩ := y2.cells; obtain ⟨p3, p3'⟩ := y3.cells; obtain ⟨p4, p4'⟩ := y4.cells; obtain ⟨p5, p5'⟩ := y5.cells; obtain ⟨f4, f4'⟩ := y4.free; obtain ⟨f5, f5'⟩ := y5.free)
    | (go_at_call 56; refine (HW2.out _ hB1).mono ?_; rintro e w2 ⟨⟨vq, vr, rfl, hq, hr0⟩, hb2⟩; obtain ⟨aq, cq, rfl⟩ := lf_slice hq; obtain ⟨ar, cr, rfl⟩ := lf_slice hr0; have hB2 := hB1.trans (hb2.mono hB1.size); have hs2 := Nat.le_trans hs1 hb2.size; have z2 := y2.on hb2; have z3 := y3.on hb2; have z4 := y4.on hb2; have z5 := y5.on hb2; obtain ⟨q2, q2'⟩ := z2.cells; obtain ⟨q3, q3'⟩ := z3.cells))
  have HLQF := hq.below (Below.refl w2.heap.size w2).drew
  have HLQ := HLQF.1
  have HLR := hr0.below (Below.refl w2.heap.size w2).drew
  have HBM := hB2
  have ZM2 := z2
  have ZM3 := z3
  have ZM4 := z4
  have ZM5 := z5
  have HSM := hs1
  go_region_held3 (fun w' => w'.cell? ⟨w.heap.size, 0, none⟩ = some (.bool na) ∧ w'.cell? ⟨w.heap.size + 1, 0, none⟩ = some (.bool (!na)))
    (first | go_keep | exact ⟨cell_store c2 n42, cell_store c3 n43⟩ | exact ⟨cell_store (cell_store c2 n42) n52, cell_store (cell_store c3 n43) n53⟩)
    (first
    | (go_at_call_of 52 (Value.slice aq (dig Q0).length cq); refine (HN1.out _ _ HLQ).mono ?_; rintro e w6 ⟨rfl, hb6⟩; have hB6 := HBM.drew.trans (hb6.mono HBM.size); have u2 := ZM2.ond hb6; have u3 := ZM3.ond hb6; have u4 := ZM4.ond hb6; have u5 := ZM5.ond hb6; obtain ⟨b2, b2'⟩ := u2.cells; obtain ⟨b3, b3'⟩ := u3.cells; have HLR6 := HLR.below hb6)
    | (go_at_call_of 52 (Value.slice ar (dig R0).length cr); refine (HN2.out _ _ HLR6.1).mono ?_; rintro e w7 ⟨rfl, hb7⟩; have hB7 := hB6.trans (hb7.mono hB6.size); have v2 := u2.on hb7; have v3 := u3.on hb7; have v4 := u4.on hb7; have v5 := u5.on hb7; obtain ⟨c2, c2'⟩ := v2.cells; obtain ⟨c3, c3'⟩ := v3.cells; obtain ⟨c4, c4'⟩ := v4.cells; obtain ⟨c5, c5'⟩ := v5.cells; obtain ⟨e4, e4'⟩ := v4.free; obtain ⟨e5, e5'⟩ := v5.free))
  go_wp2
  have k4 := ((v4.put (.bool nq) (.slice aq (dig Q0).length cq)).put_other (.bool nr) (.slice ar (dig R0).length cr) n45).cells
  have k5 := ((v5.put_other (.bool nq) (.slice aq (dig Q0).length cq) (Ne.symm n45)).put (.bool nr) (.slice ar (dig R0).length cr)).cells
  have hlq := (((HLQF.below hb6).below hb7).put (B' := w.heap.size + 1 + 1) (Nat.lt_of_lt_of_le (by omega) HSM) (.bool nq) (.slice aq (dig Q0).length cq)).put (B' := w.heap.size + 1 + 1 + 1) (Nat.lt_of_lt_of_le (by omega) HSM) (.bool nr) (.slice ar (dig R0).length cr)
  have hlr := ((HLR6.below hb7).put (B' := w.heap.size + 1 + 1) (Nat.lt_of_lt_of_le (by omega) HSM) (.bool nq) (.slice aq (dig Q0).length cq)).put (B' := w.heap.size + 1 + 1 + 1) (Nat.lt_of_lt_of_le (by omega) HSM) (.bool nr) (.slice ar (dig R0).length cr)
  exact bodyPost_ret (v := .tuple #[.agg #[.bool nq, .slice aq (dig Q0).length cq], .agg #[.bool nr, .slice ar (dig R0).length cr], .int .i64 0]) (by simp [results, Try.results29, go_sem, k4.1, k4.2, k5.1, k5.2]) rfl
    ⟨⟨_, _, rfl, hlq.mono (Nat.le_trans (by omega) HSM), hlr.mono (Nat.le_trans (by omega) HSM)⟩, Below.put (Below.put hB7 (by omega) _ _) (by omega) _ _⟩

set_option maxRecDepth 100000 in
set_option maxHeartbeats 2000000 in
theorem divmod_adjust (na nq nr : Bool) (aa ab : Option Addr) (ja ca jb cb Q0 R0 QF RF : Nat) (hjb : 0 < jb) (hr00 : 0 < ((dig R0).length : Int)) (w : World)
    (HW1 : Hid (∀ B W, Row2 W B na (.slice aa ja ca) (!na) (.slice ab jb cb) → Below w.heap.size w W → Calls Try.prog 48 #[.slice (some ⟨B, 0, none⟩) 2 2] W fun e w' => e = .returned (.bool true) ∧ Below W.heap.size W w'))
    (HW2 : Hid (∀ W, Below w.heap.size w W → Calls Try.prog 56 #[.slice aa ja ca, .slice ab jb cb] W fun e w' => (∃ vq vr, e = .returned (.tuple #[vq, vr]) ∧ LimF W.heap.size w' vq (dig Q0) ∧ LimF W.heap.size w' vr (dig R0)) ∧ Below W.heap.size W w'))
    (HL1 : Hid (∀ W, Calls Try.prog 58 #[.int .u64 1] W fun e w' => (∃ v, e = .returned v ∧ LimF W.heap.size w' v (dig 1)) ∧ Below W.heap.size W w'))
    (HC1 : Hid (∀ W s1 s2, Lim W s1 (dig Q0) → Lim W s2 (dig 1) → Calls Try.prog 57 #[s1, s2, .int .i64 1, .int .i64 1] W fun e w' => (∃ v, e = .returned v ∧ LimF W.heap.size w' v (dig QF)) ∧ Below W.heap.size W w'))
    (HC2 : Hid (∀ W s2, Below w.heap.size w W → Lim W s2 (dig R0) → Calls Try.prog 57 #[.slice ab jb cb, s2, .int .i64 1, .int .i64 (-1)] W fun e w' => (∃ v, e = .returned v ∧ LimF W.heap.size w' v (dig RF)) ∧ Below W.heap.size W w'))
    (HN1 : Hid (∀ W s, Lim W s (dig QF) → Calls Try.prog 52 #[.bool true, s] W fun e w' => e = .returned (.agg #[.bool nq, s]) ∧ Below W.heap.size W w'))
    (HN2 : Hid (∀ W s, Lim W s (dig RF) → Calls Try.prog 52 #[.bool (!na), s] W fun e w' => e = .returned (.agg #[.bool nr, s]) ∧ Below W.heap.size W w')) :
    Calls Try.prog 29 #[.agg #[.bool na, .slice aa ja ca], .agg #[.bool (!na), .slice ab jb cb]] w fun e w' =>
      (∃ sq sr, e = .returned (.tuple #[.agg #[.bool nq, sq], .agg #[.bool nr, sr], .int .i64 0]) ∧ LimF w.heap.size w' sq (dig QF) ∧ LimF w.heap.size w' sr (dig RF)) ∧ Below w.heap.size w w' := by
  have hjb0 : ((jb : Int) == 0) = false := by simp; omega
  have n45 : w.heap.size + 1 + 1 + 1 ≠ w.heap.size + 1 + 1 := by omega
  have n42 : w.heap.size + 1 + 1 ≠ w.heap.size := by omega
  have n43 : w.heap.size + 1 + 1 ≠ w.heap.size + 1 := by omega
  have n52 : w.heap.size + 1 + 1 + 1 ≠ w.heap.size := by omega
  have n53 : w.heap.size + 1 + 1 + 1 ≠ w.heap.size + 1 := by omega
  have hz := (((((Below.refl w.heap.size w).alloc (Nat.le_refl _) (.cells #[.bool na, .slice aa ja ca] 26)).alloc (by simp) (.cells #[.bool (!na), .slice ab jb cb] 26)).alloc (by simp <;> omega) (.cells #[.bool false, .slice none 0 0] 26)).alloc (by simp <;> omega) (.cells #[.bool false, .slice none 0 0] 26)).alloc (by simp <;> omega) (.cells #[.bool na, .slice aa ja ca, .bool (!na), .slice ab jb cb] 26)
  have x2 := ((((Bx.new w (.bool na) (.slice aa ja ca)).alloc (.cells #[.bool (!na), .slice ab jb cb] 26)).alloc (.cells #[.bool false, .slice none 0 0] 26)).alloc (.cells #[.bool false, .slice none 0 0] 26)).alloc (.cells #[.bool na, .slice aa ja ca, .bool (!na), .slice ab jb cb] 26)
  have x3 := (((Bx.new (w.alloc (.cells #[.bool na, .slice aa ja ca] 26)) (.bool (!na)) (.slice ab jb cb)).alloc (.cells #[.bool false, .slice none 0 0] 26)).alloc (.cells #[.bool false, .slice none 0 0] 26)).alloc (.cells #[.bool na, .slice aa ja ca, .bool (!na), .slice ab jb cb] 26)
  have x4 := ((Bx.new ((w.alloc (.cells #[.bool na, .slice aa ja ca] 26)).alloc (.cells #[.bool (!na), .slice ab jb cb] 26)) (.bool false) (.slice none 0 0)).alloc (.cells #[.bool false, .slice none 0 0] 26)).alloc (.cells #[.bool na, .slice aa ja ca, .bool (!na), .slice ab jb cb] 26)
  have x5 := (Bx.new (((w.alloc (.cells #[.bool na, .slice aa ja ca] 26)).alloc (.cells #[.bool (!na), .slice ab jb cb] 26)).alloc (.cells #[.bool false, .slice none 0 0] 26)) (.bool false) (.slice none 0 0)).alloc (.cells #[.bool na, .slice aa ja ca, .bool (!na), .slice ab jb cb] 26)
  have hr := row2_new ((((w.alloc (.cells #[.bool na, .slice aa ja ca] 26)).alloc (.cells #[.bool (!na), .slice ab jb cb] 26)).alloc (.cells #[.bool false, .slice none 0 0] 26)).alloc (.cells #[.bool false, .slice none 0 0] 26)) na (.slice aa ja ca) (!na) (.slice ab jb cb)
  simp only [World.size_alloc] at x3 x4 x5 hr
  have HR := Lib.hid hr
  clear hr
  go_enter Try.func29, Try.ntmps29
  go_wp2_with (first
    | (go_at_call 48; refine (HW1.out _ _ HR.out hz).mono ?_; rintro e w1 ⟨rfl, hb1⟩; have hB1 := hz.trans (hb1.mono hz.size); have hs1 := hb1.size; simp only [World.size_alloc] at hs1; have y2 := x2.on hb1; have y3 := x3.on hb1; have y4 := x4.on hb1; have y5 := x5.on hb1; obtain ⟨p2, p2'⟩ := y2.cells; obtain ⟨p3, p3'⟩ := y3.cells; obtain ⟨p4, p4'⟩ := y4.cells; obtain ⟨p5, p5'⟩ := y5.cells; obtain ⟨f4, f4'⟩ := y4.free; obtain ⟨f5, f5'⟩ := y5.free)
    | (go_at_call 56; refine (HW2.out _ hB1).mono ?_; rintro e w2 ⟨⟨vq, vr, rfl, hq, hr0⟩, hb2⟩; obtain ⟨aq, cq, rfl⟩ := lf_slice hq; obtain ⟨ar, cr, rfl⟩ := lf_slice hr0; have hB2 := hB1.trans (hb2.mono hB1.size); have hs2 := Nat.le_trans hs1 hb2.size; have z2 := y2.on hb2; have z3 := y3.on hb2; have z4 := y4.on hb2; have z5 := y5.on hb2; obtain ⟨q2, q2'⟩ := z2.cells; obtain ⟨q3, q3'⟩ := z3.cells)
    | (go_at_call 58; refine (HL1.out _).mono ?_; rintro e w3 ⟨⟨v1, rfl, h1⟩, hb3⟩; obtain ⟨a1, c1, rfl⟩ := lf_slice h1; have hB3 := hB2.trans (hb3.mono hB2.size); have g2 := z2.on hb3; have g3 := z3.on hb3; have g4 := z4.on hb3; have g5 := z5.on hb3; have hq3 := hq.below hb3; have hr3 := hr0.below hb3)
    | (go_at_call_of 57 (Value.slice aq (dig Q0).length cq); refine (HC1.out _ _ _ hq3.1 h1.1).mono ?_; rintro e w4 ⟨⟨v4, rfl, hq5⟩, hb4⟩; obtain ⟨a4, d4, rfl⟩ := lf_slice hq5; have hB4 := hB3.trans (hb4.mono hB3.size); have r2 := g2.on hb4; have r3 := g3.on hb4; have r4 := g4.on hb4; have r5 := g5.on hb4; obtain ⟨t2, t2'⟩ := r2.cells; obtain ⟨t3, t3'⟩ := r3.cells; have hr4 := hr3.below hb4)
    | (go_at_call_of 57 (Value.slice ar (dig R0).length cr); refine (HC2.out _ _ hB4 hr4.1).mono ?_; rintro e w5 ⟨⟨v5, rfl, hr5⟩, hb5⟩; obtain ⟨a5, d5, rfl⟩ := lf_slice hr5; have hB5 := hB4.trans (hb5.mono hB4.size); have s2 := r2.on hb5; have s3 := r3.on hb5; have s4 := r4.on hb5; have s5 := r5.on hb5; obtain ⟨t5, t5'⟩ := s2.cells; obtain ⟨t6, t6'⟩ := s3.cells))
  have HLQF := (hq5.below hb5).below (Below.refl w5.heap.size w5).drew
  have HLQ := HLQF.1
  have HLR := hr5.below (Below.refl w5.heap.size w5).drew
  have HBM := hB5
  have ZM2 := s2
  have ZM3 := s3
  have ZM4 := s4
  have ZM5 := s5
  have HSM := Nat.le_trans hs2 (Nat.le_trans hb3.size (Nat.le_refl _))
  have HSM2 := Nat.le_trans HSM hb4.size
  go_region_held3 (fun w' => w'.cell? ⟨w.heap.size, 0, none⟩ = some (.bool na) ∧ w'.cell? ⟨w.heap.size + 1, 0, none⟩ = some (.bool (!na)))
    (first | go_keep | exact ⟨cell_store c2 n42, cell_store c3 n43⟩ | exact ⟨cell_store (cell_store c2 n42) n52, cell_store (cell_store c3 n43) n53⟩)
    (first
    | (go_at_call_of 52 (Value.slice a4 (dig QF).length d4); refine (HN1.out _ _ HLQ).mono ?_; rintro e w6 ⟨rfl, hb6⟩; have hB6 := HBM.drew.trans (hb6.mono HBM.size); have u2 := ZM2.ond hb6; have u3 := ZM3.ond hb6; have u4 := ZM4.ond hb6; have u5 := ZM5.ond hb6; obtain ⟨b2, b2'⟩ := u2.cells; obtain ⟨b3, b3'⟩ := u3.cells; have HLR6 := HLR.below hb6)
    | (go_at_call_of 52 (Value.slice a5 (dig RF).length d5); refine (HN2.out _ _ HLR6.1).mono ?_; rintro e w7 ⟨rfl, hb7⟩; have hB7 := hB6.trans (hb7.mono hB6.size); have v2 := u2.on hb7; have v3 := u3.on hb7; have v4 := u4.on hb7; have v5 := u5.on hb7; obtain ⟨c2, c2'⟩ := v2.cells; obtain ⟨c3, c3'⟩ := v3.cells; obtain ⟨c4, c4'⟩ := v4.cells; obtain ⟨c5, c5'⟩ := v5.cells; obtain ⟨e4, e4'⟩ := v4.free; obtain ⟨e5, e5'⟩ := v5.free))
  go_wp2
  have k4 := ((v4.put (.bool nq) (.slice a4 (dig QF).length d4)).put_other (.bool nr) (.slice a5 (dig RF).length d5) n45).cells
  have k5 := ((v5.put_other (.bool nq) (.slice a4 (dig QF).length d4) (Ne.symm n45)).put (.bool nr) (.slice a5 (dig RF).length d5)).cells
  have hlq := (((HLQF.below hb6).below hb7).put (B' := w.heap.size + 1 + 1) (Nat.lt_of_lt_of_le (by omega) HSM) (.bool nq) (.slice a4 (dig QF).length d4)).put (B' := w.heap.size + 1 + 1 + 1) (Nat.lt_of_lt_of_le (by omega) HSM) (.bool nr) (.slice a5 (dig RF).length d5)
  have hlr := ((HLR6.below hb7).put (B' := w.heap.size + 1 + 1) (Nat.lt_of_lt_of_le (by omega) HSM2) (.bool nq) (.slice a4 (dig QF).length d4)).put (B' := w.heap.size + 1 + 1 + 1) (Nat.lt_of_lt_of_le (by omega) HSM2) (.bool nr) (.slice a5 (dig RF).length d5)
  exact bodyPost_ret (v := .tuple #[.agg #[.bool nq, .slice a4 (dig QF).length d4], .agg #[.bool nr, .slice a5 (dig RF).length d5], .int .i64 0]) (by simp [results, Try.results29, go_sem, k4.1, k4.2, k5.1, k5.2]) rfl
    ⟨⟨_, _, rfl, hlq.mono (Nat.le_trans (by omega) HSM), hlr.mono (Nat.le_trans (by omega) HSM2)⟩, Below.put (Below.put hB7 (by omega) _ _) (by omega) _ _⟩

end Go.Proofs.Ytodmbklednehbaa
