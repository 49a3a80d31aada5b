/-
The helpers of the laws: 'equal', 'sum', 'product', 'less', 'usable'.
-/
import Derived.Test.YtodmbklednehbaaAwake
import Derived.Outline
namespace Go.Proofs.Ytodmbklednehbaa
open Go.RowKit Wh

set_option maxRecDepth 100000 in
set_option maxHeartbeats 1000000 in
theorem equal_any (va vb : Value) (a : Int) (ha : (dig a.natAbs).length ≤ 1024) (w : World) (h : Num w va a) (g : Num w vb a) :
    Calls Try.prog 30 #[va, vb] w fun e w' => e = .returned (.bool true) ∧ Below w.heap.size w w' := by
  have hw3 := fun W (hW : Below w.heap.size w W) => refSame_num va vb a a W (h.below hW (Nat.le_refl _)) (g.below hW (Nat.le_refl _))
  rw [decide_eq_true rfl] at hw3
  obtain ⟨s, rfl, h⟩ := h
  obtain ⟨s', rfl, g⟩ := g
  have hw1 := fun W (hW : Below w.heap.size w W) => Valid_any (decide (a < 0)) s _ W (h.below hW (Nat.le_refl _))
  have hw2 := fun W (hW : Below w.heap.size w W) => Valid_any (decide (a < 0)) s' _ W (g.below hW (Nat.le_refl _))
  rw [vld_num a ha] at hw1 hw2
  have HW1 := Lib.hid hw1
  have HW2 := Lib.hid hw2
  have HW3 := Lib.hid hw3
  obtain ⟨aa, ca, rfl⟩ := lim_slice h
  obtain ⟨ab, cb, rfl⟩ := lim_slice g
  clear hw1 hw2 hw3 h g ha
  obtain ⟨ja, hja⟩ : ∃ n, n = (dig a.natAbs).length := ⟨_, rfl⟩
  obtain ⟨na, hna⟩ : ∃ n, n = decide (a < 0) := ⟨_, rfl⟩
  rw [← hja, ← hna] at HW1 HW2 HW3
  rw [← hja, ← hna]
  clear hja hna
  have hz := ((Below.refl w.heap.size w).alloc (Nat.le_refl _) (.cells #[.bool na, .slice aa ja ca] 26)).alloc (by simp) (.cells #[.bool na, .slice ab ja cb] 26)
  have x2 := (Bx.new w (.bool na) (.slice aa ja ca)).alloc (.cells #[.bool na, .slice ab ja cb] 26)
  have x3 := Bx.new (w.alloc (.cells #[.bool na, .slice aa ja ca] 26)) (.bool na) (.slice ab ja cb)
  simp only [World.size_alloc] at x3
  go_enter Try.func30, Try.ntmps30
  go_wp2_with fail
  refine (HW1.out _ hz).mono ?_
  rintro e w1 ⟨rfl, hb1⟩
  have hB1 := hz.trans (hb1.mono hz.size)
  have y2 := x2.on hb1
  have y3 := x3.on hb1
  obtain ⟨p2, p2'⟩ := y2.cells
  obtain ⟨p3, p3'⟩ := y3.cells
  go_wp2_with fail
  refine (HW2.out _ hB1).mono ?_
  rintro e w2 ⟨rfl, hb2⟩
  have hB2 := hB1.trans (hb2.mono hB1.size)
  have z2 := y2.on hb2
  have z3 := y3.on hb2
  obtain ⟨q2, q2'⟩ := z2.cells
  obtain ⟨q3, q3'⟩ := z3.cells
  go_wp2_with fail
  refine (HW3.out _ hB2).mono ?_
  rintro e w3 ⟨rfl, hb3⟩
  have hB3 := hB2.trans (hb3.mono hB2.size)
  go_wp2
  go_ret
  exact ⟨rfl, hB3⟩

set_option maxRecDepth 100000 in
set_option maxHeartbeats 1000000 in
theorem law_sum_any (va vb : Value) (a b z : Int) (hzz : a + b = z) (ha : (dig a.natAbs).length ≤ 1024) (hb : (dig b.natAbs).length ≤ 1024) (hlen : (dig z.natAbs).length ≤ 1024) (w : World) (h' : Num w va a) (g' : Num w vb b) :
    Calls Try.prog 31 #[va, vb] w fun e w' => (∃ v, e = .returned v ∧ NumF w.heap.size w' v z) ∧ Below w.heap.size w w' := by
  subst hzz
  obtain ⟨s, rfl, h⟩ := h'
  obtain ⟨s', rfl, g⟩ := g'
  have hw1 := fun W (hW : Below w.heap.size w W) => Add_ok (.agg #[.bool (decide (a < 0)), s]) (.agg #[.bool (decide (b < 0)), s']) a b ha hb W ⟨s, rfl, h.below hW (Nat.le_refl _)⟩ ⟨s', rfl, g.below hW (Nat.le_refl _)⟩ hlen
  have HW1 := Lib.hid hw1
  obtain ⟨aa, ca, rfl⟩ := lim_slice h
  obtain ⟨ab, cb, rfl⟩ := lim_slice g
  clear hw1 h g ha hb hlen
  obtain ⟨ja, hja⟩ : ∃ n, n = (dig a.natAbs).length := ⟨_, rfl⟩
  obtain ⟨jb, hjb⟩ : ∃ n, n = (dig b.natAbs).length := ⟨_, rfl⟩
  obtain ⟨na, hna⟩ : ∃ n, n = decide (a < 0) := ⟨_, rfl⟩
  obtain ⟨nb, hnb⟩ : ∃ n, n = decide (b < 0) := ⟨_, rfl⟩
  obtain ⟨z, hz0⟩ : ∃ z : Int, z = a + b := ⟨_, rfl⟩
  rw [← hja, ← hna, ← hjb, ← hnb, ← hz0] at HW1
  rw [← hja, ← hna, ← hjb, ← hnb, ← hz0]
  clear hja hna hjb hnb hz0
  have hz := (((Below.refl w.heap.size w).alloc (Nat.le_refl _) (.cells #[.bool na, .slice aa ja ca] 26)).alloc (by simp) (.cells #[.bool nb, .slice ab jb cb] 26)).alloc (by simp <;> omega) (.cells #[.bool false, .slice none 0 0] 26)
  have x4 := Bx.new ((w.alloc (.cells #[.bool na, .slice aa ja ca] 26)).alloc (.cells #[.bool nb, .slice ab jb cb] 26)) (.bool false) (.slice none 0 0)
  simp only [World.size_alloc] at x4
  go_enter Try.func31, Try.ntmps31
  go_wp2_with fail
  refine (HW1.out _ hz).mono ?_
  rintro e w1 ⟨⟨v, rfl, hn⟩, hb1⟩
  obtain ⟨s2, rfl, hl⟩ := hn
  obtain ⟨a3, c3, rfl⟩ := lf_slice hl
  have hB1 := hz.trans (hb1.mono hz.size)
  have y4 := x4.on hb1
  obtain ⟨p4, p4'⟩ := y4.cells
  obtain ⟨f4, f4'⟩ := y4.free
  have hlt := (x4.on hb1).lt
  go_wp2
  obtain ⟨k4, k4'⟩ := ((y4.put (.bool (decide (z < 0))) (.slice a3 (dig z.natAbs).length c3)).alloc (.cells #[.bool (decide (z < 0)), .slice a3 (dig z.natAbs).length c3] 26)).cells
  have hl2 := hl.put (B' := w.heap.size + 1 + 1) (by simp <;> omega) (.bool (decide (z < 0))) (.slice a3 (dig z.natAbs).length c3)
  have hl3 := (hl2.below ((Below.refl _ _).alloc (Nat.le_refl _) (.cells #[.bool (decide (z < 0)), .slice a3 (dig z.natAbs).length c3] 26))).mono hz.size
  have hBF := (Below.put hB1 (show w.heap.size ≤ w.heap.size + 1 + 1 by omega) (.bool (decide (z < 0))) (.slice a3 (dig z.natAbs).length c3))
  exact bodyPost_ret (v := .agg #[.bool (decide (z < 0)), .slice a3 (dig z.natAbs).length c3]) (by simp [results, Try.results31, go_sem, k4, k4']) rfl ⟨⟨_, rfl, _, rfl, hl3⟩, hBF.alloc hBF.size _⟩

set_option maxRecDepth 100000 in
set_option maxHeartbeats 1000000 in
theorem law_product_any (va vb : Value) (a b z : Int) (hzz : a * b = z) (ha : (dig a.natAbs).length ≤ 1024) (hb : (dig b.natAbs).length ≤ 1024) (hlen : (dig z.natAbs).length ≤ 1024) (w : World) (h' : Num w va a) (g' : Num w vb b) :
    Calls Try.prog 32 #[va, vb] w fun e w' => (∃ v, e = .returned v ∧ NumF w.heap.size w' v z) ∧ Below w.heap.size w w' := by
  subst hzz
  obtain ⟨s, rfl, h⟩ := h'
  obtain ⟨s', rfl, g⟩ := g'
  have hw1 := fun W (hW : Below w.heap.size w W) => Mul_ok (.agg #[.bool (decide (a < 0)), s]) (.agg #[.bool (decide (b < 0)), s']) a b ha hb W ⟨s, rfl, h.below hW (Nat.le_refl _)⟩ ⟨s', rfl, g.below hW (Nat.le_refl _)⟩ hlen
  have HW1 := Lib.hid hw1
  obtain ⟨aa, ca, rfl⟩ := lim_slice h
  obtain ⟨ab, cb, rfl⟩ := lim_slice g
  clear hw1 h g ha hb hlen
  obtain ⟨ja, hja⟩ : ∃ n, n = (dig a.natAbs).length := ⟨_, rfl⟩
  obtain ⟨jb, hjb⟩ : ∃ n, n = (dig b.natAbs).length := ⟨_, rfl⟩
  obtain ⟨na, hna⟩ : ∃ n, n = decide (a < 0) := ⟨_, rfl⟩
  obtain ⟨nb, hnb⟩ : ∃ n, n = decide (b < 0) := ⟨_, rfl⟩
  obtain ⟨z, hz0⟩ : ∃ z : Int, z = a * b := ⟨_, rfl⟩
  rw [← hja, ← hna, ← hjb, ← hnb, ← hz0] at HW1
  rw [← hja, ← hna, ← hjb, ← hnb, ← hz0]
  clear hja hna hjb hnb hz0
  have hz := (((Below.refl w.heap.size w).alloc (Nat.le_refl _) (.cells #[.bool na, .slice aa ja ca] 26)).alloc (by simp) (.cells #[.bool nb, .slice ab jb cb] 26)).alloc (by simp <;> omega) (.cells #[.bool false, .slice none 0 0] 26)
  have x4 := Bx.new ((w.alloc (.cells #[.bool na, .slice aa ja ca] 26)).alloc (.cells #[.bool nb, .slice ab jb cb] 26)) (.bool false) (.slice none 0 0)
  simp only [World.size_alloc] at x4
  go_enter Try.func32, Try.ntmps32
  go_wp2_with fail
  refine (HW1.out _ hz).mono ?_
  rintro e w1 ⟨⟨v, rfl, hn⟩, hb1⟩
  obtain ⟨s2, rfl, hl⟩ := hn
  obtain ⟨a3, c3, rfl⟩ := lf_slice hl
  have hB1 := hz.trans (hb1.mono hz.size)
  have y4 := x4.on hb1
  obtain ⟨p4, p4'⟩ := y4.cells
  obtain ⟨f4, f4'⟩ := y4.free
  have hlt := (x4.on hb1).lt
  go_wp2
  obtain ⟨k4, k4'⟩ := ((y4.put (.bool (decide (z < 0))) (.slice a3 (dig z.natAbs).length c3)).alloc (.cells #[.bool (decide (z < 0)), .slice a3 (dig z.natAbs).length c3] 26)).cells
  have hl2 := hl.put (B' := w.heap.size + 1 + 1) (by simp <;> omega) (.bool (decide (z < 0))) (.slice a3 (dig z.natAbs).length c3)
  have hl3 := (hl2.below ((Below.refl _ _).alloc (Nat.le_refl _) (.cells #[.bool (decide (z < 0)), .slice a3 (dig z.natAbs).length c3] 26))).mono hz.size
  have hBF := (Below.put hB1 (show w.heap.size ≤ w.heap.size + 1 + 1 by omega) (.bool (decide (z < 0))) (.slice a3 (dig z.natAbs).length c3))
  exact bodyPost_ret (v := .agg #[.bool (decide (z < 0)), .slice a3 (dig z.natAbs).length c3]) (by simp [results, Try.results32, go_sem, k4, k4']) rfl ⟨⟨_, rfl, _, rfl, hl3⟩, hBF.alloc hBF.size _⟩

set_option maxRecDepth 100000 in
set_option maxHeartbeats 1000000 in
theorem law_less_any (va vb : Value) (a b z : Int) (hzz : a - b = z) (ha : (dig a.natAbs).length ≤ 1024) (hb : (dig b.natAbs).length ≤ 1024) (hlen : (dig z.natAbs).length ≤ 1024) (w : World) (h' : Num w va a) (g' : Num w vb b) :
    Calls Try.prog 34 #[va, vb] w fun e w' => (∃ v, e = .returned v ∧ NumF w.heap.size w' v z) ∧ Below w.heap.size w w' := by
  subst hzz
  obtain ⟨s, rfl, h⟩ := h'
  obtain ⟨s', rfl, g⟩ := g'
  have hw1 := fun W (hW : Below w.heap.size w W) => Sub_ok (.agg #[.bool (decide (a < 0)), s]) (.agg #[.bool (decide (b < 0)), s']) a b ha hb W ⟨s, rfl, h.below hW (Nat.le_refl _)⟩ ⟨s', rfl, g.below hW (Nat.le_refl _)⟩ hlen
  have HW1 := Lib.hid hw1
  obtain ⟨aa, ca, rfl⟩ := lim_slice h
  obtain ⟨ab, cb, rfl⟩ := lim_slice g
  clear hw1 h g ha hb hlen
  obtain ⟨ja, hja⟩ : ∃ n, n = (dig a.natAbs).length := ⟨_, rfl⟩
  obtain ⟨jb, hjb⟩ : ∃ n, n = (dig b.natAbs).length := ⟨_, rfl⟩
  obtain ⟨na, hna⟩ : ∃ n, n = decide (a < 0) := ⟨_, rfl⟩
  obtain ⟨nb, hnb⟩ : ∃ n, n = decide (b < 0) := ⟨_, rfl⟩
  obtain ⟨z, hz0⟩ : ∃ z : Int, z = a - b := ⟨_, rfl⟩
  rw [← hja, ← hna, ← hjb, ← hnb, ← hz0] at HW1
  rw [← hja, ← hna, ← hjb, ← hnb, ← hz0]
  clear hja hna hjb hnb hz0
  have hz := (((Below.refl w.heap.size w).alloc (Nat.le_refl _) (.cells #[.bool na, .slice aa ja ca] 26)).alloc (by simp) (.cells #[.bool nb, .slice ab jb cb] 26)).alloc (by simp <;> omega) (.cells #[.bool false, .slice none 0 0] 26)
  have x4 := Bx.new ((w.alloc (.cells #[.bool na, .slice aa ja ca] 26)).alloc (.cells #[.bool nb, .slice ab jb cb] 26)) (.bool false) (.slice none 0 0)
  simp only [World.size_alloc] at x4
  go_enter Try.func34, Try.ntmps34
  go_wp2_with fail
  refine (HW1.out _ hz).mono ?_
  rintro e w1 ⟨⟨v, rfl, hn⟩, hb1⟩
  obtain ⟨s2, rfl, hl⟩ := hn
  obtain ⟨a3, c3, rfl⟩ := lf_slice hl
  have hB1 := hz.trans (hb1.mono hz.size)
  have y4 := x4.on hb1
  obtain ⟨p4, p4'⟩ := y4.cells
  obtain ⟨f4, f4'⟩ := y4.free
  have hlt := (x4.on hb1).lt
  go_wp2
  obtain ⟨k4, k4'⟩ := ((y4.put (.bool (decide (z < 0))) (.slice a3 (dig z.natAbs).length c3)).alloc (.cells #[.bool (decide (z < 0)), .slice a3 (dig z.natAbs).length c3] 26)).cells
  have hl2 := hl.put (B' := w.heap.size + 1 + 1) (by simp <;> omega) (.bool (decide (z < 0))) (.slice a3 (dig z.natAbs).length c3)
  have hl3 := (hl2.below ((Below.refl _ _).alloc (Nat.le_refl _) (.cells #[.bool (decide (z < 0)), .slice a3 (dig z.natAbs).length c3] 26))).mono hz.size
  have hBF := (Below.put hB1 (show w.heap.size ≤ w.heap.size + 1 + 1 by omega) (.bool (decide (z < 0))) (.slice a3 (dig z.natAbs).length c3))
  exact bodyPost_ret (v := .agg #[.bool (decide (z < 0)), .slice a3 (dig z.natAbs).length c3]) (by simp [results, Try.results34, go_sem, k4, k4']) rfl ⟨⟨_, rfl, _, rfl, hl3⟩, hBF.alloc hBF.size _⟩

set_option maxRecDepth 100000 in
set_option maxHeartbeats 2000000 in
theorem usable1_any (M B : Nat) (b1 : Bool) (s1 : Value) (l1 : List Nat) (w : World) (c1 : w.cell? ⟨B, 0, none⟩ = some (.bool b1)) (c1' : w.cell? ⟨B, 1, none⟩ = some s1) (h1 : Lim w s1 l1) :
    Calls Try.prog 28 #[.int .i64 (M : Int), .slice (some ⟨B, 0, none⟩) 1 1] w fun e w' => e = .returned (.bool ((decide (l1.length ≤ M) && vld b1 l1))) ∧ Below w.heap.size w w' := by
  have hBl := lt_of_cell c1
  have hB := Below.refl w.heap.size w
  have hv1 := fun W (hW : Below w.heap.size w W) => Valid_any b1 s1 l1 W (h1.below hW (Nat.le_refl _))
  have HV1 := Lib.hid hv1
  obtain ⟨a1, k1, rfl, -⟩ := id h1
  clear hv1 h1
  obtain ⟨v1, hv1⟩ : ∃ v, v = vld b1 l1 := ⟨_, rfl⟩
  rw [← hv1] at HV1 ⊢
  clear hv1
  go_enter Try.func28, Try.ntmps28
  go_wp2_with fail
  refine wp_loop_rounds 2 ?_
  rw [rounds_succ]
  rcases Nat.lt_or_ge M l1.length with t1 | t1
  · have t1' : (M : Int) < (l1.length : Int) := by omega
    have T := Lib.hid (show decide (l1.length ≤ M) = false from decide_eq_false (by omega))
    go_wp2
    go_ret
    exact ⟨by simp [T.out], hB⟩
  · have t1' : ¬ (M : Int) < (l1.length : Int) := by omega
    cases v1 with
    | false =>
      go_wp2_with fail
      refine (HV1.out _ hB).mono ?_
      rintro e wn ⟨rfl, hb⟩
      have hB2 := hB.trans (hb.mono hB.size)
      go_wp2
      go_ret
      exact ⟨by simp, hB2⟩
    | true =>
      go_wp2_with fail
      refine (HV1.out _ hB).mono ?_
      rintro e w1 ⟨rfl, hb⟩
      replace c1 := (hb.cell (p := ⟨B, 0, none⟩) hBl).trans c1
      replace c1' := (hb.cell (p := ⟨B, 1, none⟩) hBl).trans c1'
      replace hBl := lt_of_cell c1
      replace hB := hB.trans (hb.mono hB.size)
      clear hb
      go_wp2_with fail
      rw [rounds_succ]
      go_wp2
      go_ret
      exact ⟨by simp [t1], hB⟩

set_option maxRecDepth 100000 in
set_option maxHeartbeats 2000000 in
theorem usable2_any (M B : Nat) (b1 : Bool) (s1 : Value) (l1 : List Nat) (b2 : Bool) (s2 : Value) (l2 : List Nat) (w : World) (c1 : w.cell? ⟨B, 0, none⟩ = some (.bool b1)) (c1' : w.cell? ⟨B, 1, none⟩ = some s1) (c2 : w.cell? ⟨B, 2, none⟩ = some (.bool b2)) (c2' : w.cell? ⟨B, 3, none⟩ = some s2) (h1 : Lim w s1 l1) (h2 : Lim w s2 l2) :
    Calls Try.prog 28 #[.int .i64 (M : Int), .slice (some ⟨B, 0, none⟩) 2 2] w fun e w' => e = .returned (.bool ((decide (l1.length ≤ M) && vld b1 l1) && (decide (l2.length ≤ M) && vld b2 l2))) ∧ Below w.heap.size w w' := by
  have hBl := lt_of_cell c1
  have hB := Below.refl w.heap.size w
  have hv1 := fun W (hW : Below w.heap.size w W) => Valid_any b1 s1 l1 W (h1.below hW (Nat.le_refl _))
  have HV1 := Lib.hid hv1
  obtain ⟨a1, k1, rfl, -⟩ := id h1
  clear hv1 h1
  obtain ⟨v1, hv1⟩ : ∃ v, v = vld b1 l1 := ⟨_, rfl⟩
  rw [← hv1] at HV1 ⊢
  clear hv1
  have hv2 := fun W (hW : Below w.heap.size w W) => Valid_any b2 s2 l2 W (h2.below hW (Nat.le_refl _))
  have HV2 := Lib.hid hv2
  obtain ⟨a2, k2, rfl, -⟩ := id h2
  clear hv2 h2
  obtain ⟨v2, hv2⟩ : ∃ v, v = vld b2 l2 := ⟨_, rfl⟩
  rw [← hv2] at HV2 ⊢
  clear hv2
  go_enter Try.func28, Try.ntmps28
  go_wp2_with fail
  refine wp_loop_rounds 3 ?_
  rw [rounds_succ]
  rcases Nat.lt_or_ge M l1.length with t1 | t1
  · have t1' : (M : Int) < (l1.length : Int) := by omega
    have T := Lib.hid (show decide (l1.length ≤ M) = false from decide_eq_false (by omega))
    go_wp2
    go_ret
    exact ⟨by simp [T.out], hB⟩
  · have t1' : ¬ (M : Int) < (l1.length : Int) := by omega
    cases v1 with
    | false =>
      go_wp2_with fail
      refine (HV1.out _ hB).mono ?_
      rintro e wn ⟨rfl, hb⟩
      have hB2 := hB.trans (hb.mono hB.size)
      go_wp2
      go_ret
      exact ⟨by simp, hB2⟩
    | true =>
      go_wp2_with fail
      refine (HV1.out _ hB).mono ?_
      rintro e w1 ⟨rfl, hb⟩
      replace c1 := (hb.cell (p := ⟨B, 0, none⟩) hBl).trans c1
      replace c1' := (hb.cell (p := ⟨B, 1, none⟩) hBl).trans c1'
      replace c2 := (hb.cell (p := ⟨B, 2, none⟩) hBl).trans c2
      replace c2' := (hb.cell (p := ⟨B, 3, none⟩) hBl).trans c2'
      replace hBl := lt_of_cell c1
      replace hB := hB.trans (hb.mono hB.size)
      clear hb
      go_wp2_with fail
      rw [rounds_succ]
      rcases Nat.lt_or_ge M l2.length with t2 | t2
      · have t2' : (M : Int) < (l2.length : Int) := by omega
        have T := Lib.hid (show decide (l2.length ≤ M) = false from decide_eq_false (by omega))
        go_wp2
        go_ret
        exact ⟨by simp [T.out], hB⟩
      · have t2' : ¬ (M : Int) < (l2.length : Int) := by omega
        cases v2 with
        | false =>
          go_wp2_with fail
          refine (HV2.out _ hB).mono ?_
          rintro e wn ⟨rfl, hb⟩
          have hB2 := hB.trans (hb.mono hB.size)
          go_wp2
          go_ret
          exact ⟨by simp, hB2⟩
        | true =>
          go_wp2_with fail
          refine (HV2.out _ hB).mono ?_
          rintro e w2 ⟨rfl, hb⟩
          replace c1 := (hb.cell (p := ⟨B, 0, none⟩) hBl).trans c1
          replace c1' := (hb.cell (p := ⟨B, 1, none⟩) hBl).trans c1'
          replace c2 := (hb.cell (p := ⟨B, 2, none⟩) hBl).trans c2
          replace c2' := (hb.cell (p := ⟨B, 3, none⟩) hBl).trans c2'
          replace hBl := lt_of_cell c1
          replace hB := hB.trans (hb.mono hB.size)
          clear hb
          go_wp2_with fail
          rw [rounds_succ]
          go_wp2
          go_ret
          exact ⟨by simp [t1, t2], hB⟩

set_option maxRecDepth 100000 in
set_option maxHeartbeats 2000000 in
theorem usable3_any (M B : Nat) (b1 : Bool) (s1 : Value) (l1 : List Nat) (b2 : Bool) (s2 : Value) (l2 : List Nat) (b3 : Bool) (s3 : Value) (l3 : List Nat) (w : World) (c1 : w.cell? ⟨B, 0, none⟩ = some (.bool b1)) (c1' : w.cell? ⟨B, 1, none⟩ = some s1) (c2 : w.cell? ⟨B, 2, none⟩ = some (.bool b2)) (c2' : w.cell? ⟨B, 3, none⟩ = some s2) (c3 : w.cell? ⟨B, 4, none⟩ = some (.bool b3)) (c3' : w.cell? ⟨B, 5, none⟩ = some s3) (h1 : Lim w s1 l1) (h2 : Lim w s2 l2) (h3 : Lim w s3 l3) :
    Calls Try.prog 28 #[.int .i64 (M : Int), .slice (some ⟨B, 0, none⟩) 3 3] w fun e w' => e = .returned (.bool ((decide (l1.length ≤ M) && vld b1 l1) && (decide (l2.length ≤ M) && vld b2 l2) && (decide (l3.length ≤ M) && vld b3 l3))) ∧ Below w.heap.size w w' := by
  have hBl := lt_of_cell c1
  have hB := Below.refl w.heap.size w
  have hv1 := fun W (hW : Below w.heap.size w W) => Valid_any b1 s1 l1 W (h1.below hW (Nat.le_refl _))
  have HV1 := Lib.hid hv1
  obtain ⟨a1, k1, rfl, -⟩ := id h1
  clear hv1 h1
  obtain ⟨v1, hv1⟩ : ∃ v, v = vld b1 l1 := ⟨_, rfl⟩
  rw [← hv1] at HV1 ⊢
  clear hv1
  have hv2 := fun W (hW : Below w.heap.size w W) => Valid_any b2 s2 l2 W (h2.below hW (Nat.le_refl _))
  have HV2 := Lib.hid hv2
  obtain ⟨a2, k2, rfl, -⟩ := id h2
  clear hv2 h2
  obtain ⟨v2, hv2⟩ : ∃ v, v = vld b2 l2 := ⟨_, rfl⟩
  rw [← hv2] at HV2 ⊢
  clear hv2
  have hv3 := fun W (hW : Below w.heap.size w W) => Valid_any b3 s3 l3 W (h3.below hW (Nat.le_refl _))
  have HV3 := Lib.hid hv3
  obtain ⟨a3, k3, rfl, -⟩ := id h3
  clear hv3 h3
  obtain ⟨v3, hv3⟩ : ∃ v, v = vld b3 l3 := ⟨_, rfl⟩
  rw [← hv3] at HV3 ⊢
  clear hv3
  go_enter Try.func28, Try.ntmps28
  go_wp2_with fail
  refine wp_loop_rounds 4 ?_
  rw [rounds_succ]
  rcases Nat.lt_or_ge M l1.length with t1 | t1
  · have t1' : (M : Int) < (l1.length : Int) := by omega
    have T := Lib.hid (show decide (l1.length ≤ M) = false from decide_eq_false (by omega))
    go_wp2
    go_ret
    exact ⟨by simp [T.out], hB⟩
  · have t1' : ¬ (M : Int) < (l1.length : Int) := by omega
    cases v1 with
    | false =>
      go_wp2_with fail
      refine (HV1.out _ hB).mono ?_
      rintro e wn ⟨rfl, hb⟩
      have hB2 := hB.trans (hb.mono hB.size)
      go_wp2
      go_ret
      exact ⟨by simp, hB2⟩
    | true =>
      go_wp2_with fail
      refine (HV1.out _ hB).mono ?_
      rintro e w1 ⟨rfl, hb⟩
      replace c1 := (hb.cell (p := ⟨B, 0, none⟩) hBl).trans c1
      replace c1' := (hb.cell (p := ⟨B, 1, none⟩) hBl).trans c1'
      replace c2 := (hb.cell (p := ⟨B, 2, none⟩) hBl).trans c2
      replace c2' := (hb.cell (p := ⟨B, 3, none⟩) hBl).trans c2'
      replace c3 := (hb.cell (p := ⟨B, 4, none⟩) hBl).trans c3
      replace c3' := (hb.cell (p := ⟨B, 5, none⟩) hBl).trans c3'
      replace hBl := lt_of_cell c1
      replace hB := hB.trans (hb.mono hB.size)
      clear hb
      go_wp2_with fail
      rw [rounds_succ]
      rcases Nat.lt_or_ge M l2.length with t2 | t2
      · have t2' : (M : Int) < (l2.length : Int) := by omega
        have T := Lib.hid (show decide (l2.length ≤ M) = false from decide_eq_false (by omega))
        go_wp2
        go_ret
        exact ⟨by simp [T.out], hB⟩
      · have t2' : ¬ (M : Int) < (l2.length : Int) := by omega
        cases v2 with
        | false =>
          go_wp2_with fail
          refine (HV2.out _ hB).mono ?_
          rintro e wn ⟨rfl, hb⟩
          have hB2 := hB.trans (hb.mono hB.size)
          go_wp2
          go_ret
          exact ⟨by simp, hB2⟩
        | true =>
          go_wp2_with fail
          refine (HV2.out _ hB).mono ?_
          rintro e w2 ⟨rfl, hb⟩
          replace c1 := (hb.cell (p := ⟨B, 0, none⟩) hBl).trans c1
          replace c1' := (hb.cell (p := ⟨B, 1, none⟩) hBl).trans c1'
          replace c2 := (hb.cell (p := ⟨B, 2, none⟩) hBl).trans c2
          replace c2' := (hb.cell (p := ⟨B, 3, none⟩) hBl).trans c2'
          replace c3 := (hb.cell (p := ⟨B, 4, none⟩) hBl).trans c3
          replace c3' := (hb.cell (p := ⟨B, 5, none⟩) hBl).trans c3'
          replace hBl := lt_of_cell c1
          replace hB := hB.trans (hb.mono hB.size)
          clear hb
          go_wp2_with fail
          rw [rounds_succ]
          rcases Nat.lt_or_ge M l3.length with t3 | t3
          · have t3' : (M : Int) < (l3.length : Int) := by omega
            have T := Lib.hid (show decide (l3.length ≤ M) = false from decide_eq_false (by omega))
            go_wp2
            go_ret
            exact ⟨by simp [T.out], hB⟩
          · have t3' : ¬ (M : Int) < (l3.length : Int) := by omega
            cases v3 with
            | false =>
              go_wp2_with fail
              refine (HV3.out _ hB).mono ?_
              rintro e wn ⟨rfl, hb⟩
              have hB2 := hB.trans (hb.mono hB.size)
              go_wp2
              go_ret
              exact ⟨by simp, hB2⟩
            | true =>
              go_wp2_with fail
              refine (HV3.out _ hB).mono ?_
              rintro e w3 ⟨rfl, hb⟩
              replace c1 := (hb.cell (p := ⟨B, 0, none⟩) hBl).trans c1
              replace c1' := (hb.cell (p := ⟨B, 1, none⟩) hBl).trans c1'
              replace c2 := (hb.cell (p := ⟨B, 2, none⟩) hBl).trans c2
              replace c2' := (hb.cell (p := ⟨B, 3, none⟩) hBl).trans c2'
              replace c3 := (hb.cell (p := ⟨B, 4, none⟩) hBl).trans c3
              replace c3' := (hb.cell (p := ⟨B, 5, none⟩) hBl).trans c3'
              replace hBl := lt_of_cell c1
              replace hB := hB.trans (hb.mono hB.size)
              clear hb
              go_wp2_with fail
              rw [rounds_succ]
              go_wp2
              go_ret
              exact ⟨by simp [t1, t2, t3], hB⟩

end Go.Proofs.Ytodmbklednehbaa
