/- A part of the proofs about fractions. -/
import Derived.Outline
import Derived.Test.YtnnnhjgmgomlpaaGreatQz16
import Derived.Test.YtnnnhjgmgomlpaaGreatQz17
import Derived.Test.YtnnnhjgmgomlpaaGreatQz18
import Derived.Test.YtnnnhjgmgomlpaaGreatQz19
import Derived.Test.YtnnnhjgmgomlpaaGreatQz20
import Derived.Test.YtnnnhjgmgomlpaaGreatQz22
import Derived.Test.YtnnnhjgmgomlpaaGreatQz9
namespace Go.Proofs.YtnnnhjgmgomlpaaGreat
open Go.RowKit Wh
theorem Fz.zero : Fz 1 1 (0 : Rat) := ⟨Sz.small (by decide), Sz.small (by decide)⟩
theorem Fz.one : Fz 1 1 (1 : Rat) := ⟨Sz.small (by decide), Sz.small (by decide)⟩
def cmpR (p q : Rat) : Int := if p < q then -1 else if p = q then 0 else 1
theorem cmpR_eq (p q : Rat) : cmpI (p.num * q.den) (q.num * p.den) = cmpR p q := by
  unfold cmpI cmpR
  by_cases h : p < q
  · rw [if_pos h, if_pos ((Fq.cmp_lt p q).1 h)]
  · rw [if_neg h, if_neg (fun e => h ((Fq.cmp_lt p q).2 e))]
    have h1 : ¬ p.num * q.den < q.num * p.den := fun e => h ((Fq.cmp_lt p q).2 e)
    by_cases h2 : p = q
    · have := (Fq.cmp_eq p q).1 h2
      rw [if_pos h2, if_neg (by omega)]
    · have : ¬ p.num * q.den = q.num * p.den := fun e => h2 ((Fq.cmp_eq p q).2 e)
      rw [if_neg h2, if_pos (by omega)]
theorem frCmp_lit (va vb : Value) (p q : Rat) (o : Int) (ho : cmpR p q = o) (hp : Fz 256 256 p) (hq : Fz 256 256 q) (w : World) (h : Fra w va p) (g : Fra w vb q) :
    Calls Tryz.prog 52 #[va, vb] w fun e w' => e = .returned (.int .i64 o) ∧ Below w.heap.size w w' := by
  obtain ⟨b, a, k, c, b', a', k', c', rfl⟩ := h.opened
  obtain ⟨bx, ax, kx, cx, bx', ax', kx', cx', rfl⟩ := g.opened
  have := frCmp_ok p q b a k c b' a' k' c' bx ax kx cx bx' ax' kx' cx' hp hq w h g
  rwa [cmpR_eq, ho] at this
set_option maxRecDepth 100000 in
set_option maxHeartbeats 2000000 in
theorem short1_any (M B : Nat) (b1 : Bool) (a1 : Option Addr) (k1 c1 : Nat) (d1 : Bool) (e1 : Option Addr) (l1 m1 : Nat) (w : World) (_x10 : w.cell? ⟨B, 0, none⟩ = some (.bool b1)) (x11 : w.cell? ⟨B, 1, none⟩ = some (.slice a1 k1 c1)) (_x12 : w.cell? ⟨B, 2, none⟩ = some (.bool d1)) (x13 : w.cell? ⟨B, 3, none⟩ = some (.slice e1 l1 m1)) :
    Calls Tryz.prog 15 #[.int .i64 (M : Int), .slice (some ⟨B, 0, none⟩) 1 1] w fun e w' => e = .returned (.bool ((decide (k1 ≤ M) && decide (l1 ≤ M)))) ∧ Below w.heap.size w w' := by
  have hB := Below.refl w.heap.size w
  go_enter Tryz.func15, Tryz.ntmps15
  go_wp2_with fail
  refine wp_loop_rounds 2 ?_
  rw [rounds_succ]
  rcases Nat.lt_or_ge M k1 with t1 | t1
  · have t1' : (M : Int) < (k1 : Int) := by omega
    have T := Lib.hid (show decide (k1 ≤ M) = false from decide_eq_false (by omega))
    go_wp2
    go_ret
    exact ⟨by simp [T.out], hB⟩
  · have t1' : ¬ (M : Int) < (k1 : Int) := by omega
    rcases Nat.lt_or_ge M l1 with u1 | u1
    · have u1' : (M : Int) < (l1 : Int) := by omega
      have T := Lib.hid (show decide (l1 ≤ M) = false from decide_eq_false (by omega))
      go_wp2
      go_ret
      exact ⟨by simp [T.out], hB⟩
    · have u1' : ¬ (M : Int) < (l1 : Int) := by omega
      go_wp2_with fail
      rw [rounds_succ]
      go_wp2
      go_ret
      exact ⟨by simp [t1, u1], hB⟩
set_option maxRecDepth 100000 in
set_option maxHeartbeats 2000000 in
theorem short2_any (M B : Nat) (b1 : Bool) (a1 : Option Addr) (k1 c1 : Nat) (d1 : Bool) (e1 : Option Addr) (l1 m1 : Nat) (b2 : Bool) (a2 : Option Addr) (k2 c2 : Nat) (d2 : Bool) (e2 : Option Addr) (l2 m2 : Nat) (w : World) (_x10 : w.cell? ⟨B, 0, none⟩ = some (.bool b1)) (x11 : w.cell? ⟨B, 1, none⟩ = some (.slice a1 k1 c1)) (_x12 : w.cell? ⟨B, 2, none⟩ = some (.bool d1)) (x13 : w.cell? ⟨B, 3, none⟩ = some (.slice e1 l1 m1)) (_x20 : w.cell? ⟨B, 4, none⟩ = some (.bool b2)) (x21 : w.cell? ⟨B, 5, none⟩ = some (.slice a2 k2 c2)) (_x22 : w.cell? ⟨B, 6, none⟩ = some (.bool d2)) (x23 : w.cell? ⟨B, 7, none⟩ = some (.slice e2 l2 m2)) :
    Calls Tryz.prog 15 #[.int .i64 (M : Int), .slice (some ⟨B, 0, none⟩) 2 2] w fun e w' => e = .returned (.bool ((decide (k1 ≤ M) && decide (l1 ≤ M)) && (decide (k2 ≤ M) && decide (l2 ≤ M)))) ∧ Below w.heap.size w w' := by
  have hB := Below.refl w.heap.size w
  go_enter Tryz.func15, Tryz.ntmps15
  go_wp2_with fail
  refine wp_loop_rounds 3 ?_
  rw [rounds_succ]
  rcases Nat.lt_or_ge M k1 with t1 | t1
  · have t1' : (M : Int) < (k1 : Int) := by omega
    have T := Lib.hid (show decide (k1 ≤ M) = false from decide_eq_false (by omega))
    go_wp2
    go_ret
    exact ⟨by simp [T.out], hB⟩
  · have t1' : ¬ (M : Int) < (k1 : Int) := by omega
    rcases Nat.lt_or_ge M l1 with u1 | u1
    · have u1' : (M : Int) < (l1 : Int) := by omega
      have T := Lib.hid (show decide (l1 ≤ M) = false from decide_eq_false (by omega))
      go_wp2
      go_ret
      exact ⟨by simp [T.out], hB⟩
    · have u1' : ¬ (M : Int) < (l1 : Int) := by omega
      go_wp2_with fail
      rw [rounds_succ]
      rcases Nat.lt_or_ge M k2 with t2 | t2
      · have t2' : (M : Int) < (k2 : Int) := by omega
        have T := Lib.hid (show decide (k2 ≤ M) = false from decide_eq_false (by omega))
        go_wp2
        go_ret
        exact ⟨by simp [T.out], hB⟩
      · have t2' : ¬ (M : Int) < (k2 : Int) := by omega
        rcases Nat.lt_or_ge M l2 with u2 | u2
        · have u2' : (M : Int) < (l2 : Int) := by omega
          have T := Lib.hid (show decide (l2 ≤ M) = false from decide_eq_false (by omega))
          go_wp2
          go_ret
          exact ⟨by simp [T.out], hB⟩
        · have u2' : ¬ (M : Int) < (l2 : Int) := by omega
          go_wp2_with fail
          rw [rounds_succ]
          go_wp2
          go_ret
          exact ⟨by simp [t1, u1, t2, u2], hB⟩
set_option maxRecDepth 100000 in
set_option maxHeartbeats 4000000 in
theorem usable1_any (B : Nat) (b1 : Bool) (a1 : Option Addr) (k1 c1 : Nat) (d1 : Bool) (e1 : Option Addr) (l1 m1 : Nat) (v1 : Bool) (w : World) (x10 : w.cell? ⟨B, 0, none⟩ = some (.bool b1)) (x11 : w.cell? ⟨B, 1, none⟩ = some (.slice a1 k1 c1)) (x12 : w.cell? ⟨B, 2, none⟩ = some (.bool d1)) (x13 : w.cell? ⟨B, 3, none⟩ = some (.slice e1 l1 m1)) (hv1 : ∀ W, Below w.heap.size w W → Calls Tryz.prog 51 #[.agg #[.bool b1, .slice a1 k1 c1, .bool d1, .slice e1 l1 m1]] W fun e w' => e = .returned (.bool v1) ∧ Below W.heap.size W w') :
    Calls Tryz.prog 42 #[.slice (some ⟨B, 0, none⟩) 1 1] w fun e w' => e = .returned (.bool (((decide (k1 ≤ 40) && decide (l1 ≤ 40)) && v1))) ∧ Below w.heap.size w w' := by
  have hBl := lt_of_cell x10
  have hB := Below.refl w.heap.size w
  have hs1 := fun B W x0 x1 x2 x3 => short1_any 40 B b1 a1 k1 c1 d1 e1 l1 m1 W x0 x1 x2 x3
  obtain ⟨s1, es1⟩ : ∃ s, s = (decide (k1 ≤ 40) && decide (l1 ≤ 40)) := ⟨_, rfl⟩
  rw [← es1] at hs1 ⊢
  have HS1 := Lib.hid hs1
  have HV1 := Lib.hid hv1
  clear hs1 es1 hv1
  go_enter Tryz.func42, Tryz.ntmps42
  go_wp2_with fail
  refine wp_loop_rounds 2 ?_
  rw [rounds_succ]
  go_wp2_with fail
  have al := (Below.refl w.heap.size w).alloc (Nat.le_refl _) (.cells #[.bool b1, .slice a1 k1 c1, .bool d1, .slice e1 l1 m1] 26)
  have y := Bk.new w #[.bool b1, .slice a1 k1 c1, .bool d1, .slice e1 l1 m1] 26
  obtain ⟨y0, y1, y2, y3⟩ := y.cells4
  replace x10 := (al.cell (p := ⟨B, 0, none⟩) hBl).trans x10
  replace x11 := (al.cell (p := ⟨B, 1, none⟩) hBl).trans x11
  replace x12 := (al.cell (p := ⟨B, 2, none⟩) hBl).trans x12
  replace x13 := (al.cell (p := ⟨B, 3, none⟩) hBl).trans x13
  replace hBl := lt_of_cell x10
  replace hB := hB.trans (al.mono hB.size)
  clear al
  refine (HS1.out _ _ y0 y1 y2 y3).mono ?_
  rintro e t1 ⟨rfl, hb⟩
  clear y y0 y1 y2 y3
  replace x10 := (hb.cell (p := ⟨B, 0, none⟩) hBl).trans x10
  replace x11 := (hb.cell (p := ⟨B, 1, none⟩) hBl).trans x11
  replace x12 := (hb.cell (p := ⟨B, 2, none⟩) hBl).trans x12
  replace x13 := (hb.cell (p := ⟨B, 3, none⟩) hBl).trans x13
  replace hBl := lt_of_cell x10
  replace hB := hB.trans (hb.mono hB.size)
  clear hb
  cases s1 with
  | false =>
    go_wp2
    go_ret
    exact ⟨by simp, hB⟩
  | true =>
    go_wp2_with fail
    refine (HV1.out _ hB).mono ?_
    rintro e u1 ⟨rfl, hb⟩
    replace x10 := (hb.cell (p := ⟨B, 0, none⟩) hBl).trans x10
    replace x11 := (hb.cell (p := ⟨B, 1, none⟩) hBl).trans x11
    replace x12 := (hb.cell (p := ⟨B, 2, none⟩) hBl).trans x12
    replace x13 := (hb.cell (p := ⟨B, 3, none⟩) hBl).trans x13
    replace hBl := lt_of_cell x10
    replace hB := hB.trans (hb.mono hB.size)
    clear hb
    cases v1 with
    | false =>
      go_wp2
      go_ret
      exact ⟨by simp, hB⟩
    | true =>
      go_wp2_with fail
      rw [rounds_succ]
      go_wp2
      go_ret
      exact ⟨by simp, hB⟩
theorem usable1_fra (B : Nat) (p : Rat) (b1 : Bool) (a1 : Option Addr) (k1 c1 : Nat) (d1 : Bool) (e1 : Option Addr) (l1 m1 : Nat) (w : World) (x10 : w.cell? ⟨B, 0, none⟩ = some (.bool b1)) (x11 : w.cell? ⟨B, 1, none⟩ = some (.slice a1 k1 c1)) (x12 : w.cell? ⟨B, 2, none⟩ = some (.bool d1)) (x13 : w.cell? ⟨B, 3, none⟩ = some (.slice e1 l1 m1)) (h1 : Fra w (.agg #[.bool b1, .slice a1 k1 c1, .bool d1, .slice e1 l1 m1]) p) (z1 : Fz 40 40 p) :
    Calls Tryz.prog 42 #[.slice (some ⟨B, 0, none⟩) 1 1] w fun e w' => e = .returned (.bool true) ∧ Below w.heap.size w w' := by
  have hu := usable1_any B b1 a1 k1 c1 d1 e1 l1 m1 true w x10 x11 x12 x13 (fun W hW => frValid_ok _ p (z1.mono (by decide) (by decide)) W (h1.below hW (Nat.le_refl _)))
  have len : ∀ {q : Rat} {b a k c d e l m}, Fra w (.agg #[.bool b, .slice a k c, .bool d, .slice e l m]) q → Fz 40 40 q → (decide (k ≤ 40) && decide (l ≤ 40)) = true := fun {q} {b a k c d e l m} h g => by
    obtain ⟨-, -, n1, n2⟩ := fra_nums h
    obtain ⟨g1, g2⟩ := g
    unfold Sz at g1 g2
    rw [(num_len n1).1, (num_len n2).1, decide_eq_true g1, decide_eq_true g2]; rfl
  simp only [len h1 z1, Bool.and_true] at hu
  exact hu
set_option maxRecDepth 100000 in
set_option maxHeartbeats 4000000 in
theorem usable2_any (B : Nat) (b1 : Bool) (a1 : Option Addr) (k1 c1 : Nat) (d1 : Bool) (e1 : Option Addr) (l1 m1 : Nat) (b2 : Bool) (a2 : Option Addr) (k2 c2 : Nat) (d2 : Bool) (e2 : Option Addr) (l2 m2 : Nat) (v1 v2 : Bool) (w : World) (x10 : w.cell? ⟨B, 0, none⟩ = some (.bool b1)) (x11 : w.cell? ⟨B, 1, none⟩ = some (.slice a1 k1 c1)) (x12 : w.cell? ⟨B, 2, none⟩ = some (.bool d1)) (x13 : w.cell? ⟨B, 3, none⟩ = some (.slice e1 l1 m1)) (x20 : w.cell? ⟨B, 4, none⟩ = some (.bool b2)) (x21 : w.cell? ⟨B, 5, none⟩ = some (.slice a2 k2 c2)) (x22 : w.cell? ⟨B, 6, none⟩ = some (.bool d2)) (x23 : w.cell? ⟨B, 7, none⟩ = some (.slice e2 l2 m2)) (hv1 : ∀ W, Below w.heap.size w W → Calls Tryz.prog 51 #[.agg #[.bool b1, .slice a1 k1 c1, .bool d1, .slice e1 l1 m1]] W fun e w' => e = .returned (.bool v1) ∧ Below W.heap.size W w') (hv2 : ∀ W, Below w.heap.size w W → Calls Tryz.prog 51 #[.agg #[.bool b2, .slice a2 k2 c2, .bool d2, .slice e2 l2 m2]] W fun e w' => e = .returned (.bool v2) ∧ Below W.heap.size W w') :
    Calls Tryz.prog 42 #[.slice (some ⟨B, 0, none⟩) 2 2] w fun e w' => e = .returned (.bool (((decide (k1 ≤ 40) && decide (l1 ≤ 40)) && v1) && ((decide (k2 ≤ 40) && decide (l2 ≤ 40)) && v2))) ∧ Below w.heap.size w w' := by
  have hBl := lt_of_cell x10
  have hB := Below.refl w.heap.size w
  have hs1 := fun B W x0 x1 x2 x3 => short1_any 40 B b1 a1 k1 c1 d1 e1 l1 m1 W x0 x1 x2 x3
  obtain ⟨s1, es1⟩ : ∃ s, s = (decide (k1 ≤ 40) && decide (l1 ≤ 40)) := ⟨_, rfl⟩
  rw [← es1] at hs1 ⊢
  have HS1 := Lib.hid hs1
  have HV1 := Lib.hid hv1
  clear hs1 es1 hv1
  have hs2 := fun B W x0 x1 x2 x3 => short1_any 40 B b2 a2 k2 c2 d2 e2 l2 m2 W x0 x1 x2 x3
  obtain ⟨s2, es2⟩ : ∃ s, s = (decide (k2 ≤ 40) && decide (l2 ≤ 40)) := ⟨_, rfl⟩
  rw [← es2] at hs2 ⊢
  have HS2 := Lib.hid hs2
  have HV2 := Lib.hid hv2
  clear hs2 es2 hv2
  go_enter Tryz.func42, Tryz.ntmps42
  go_wp2_with fail
  refine wp_loop_rounds 3 ?_
  rw [rounds_succ]
  go_wp2_with fail
  have al := (Below.refl w.heap.size w).alloc (Nat.le_refl _) (.cells #[.bool b1, .slice a1 k1 c1, .bool d1, .slice e1 l1 m1] 26)
  have y := Bk.new w #[.bool b1, .slice a1 k1 c1, .bool d1, .slice e1 l1 m1] 26
  obtain ⟨y0, y1, y2, y3⟩ := y.cells4
  replace x10 := (al.cell (p := ⟨B, 0, none⟩) hBl).trans x10
  replace x11 := (al.cell (p := ⟨B, 1, none⟩) hBl).trans x11
  replace x12 := (al.cell (p := ⟨B, 2, none⟩) hBl).trans x12
  replace x13 := (al.cell (p := ⟨B, 3, none⟩) hBl).trans x13
  replace x20 := (al.cell (p := ⟨B, 4, none⟩) hBl).trans x20
  replace x21 := (al.cell (p := ⟨B, 5, none⟩) hBl).trans x21
  replace x22 := (al.cell (p := ⟨B, 6, none⟩) hBl).trans x22
  replace x23 := (al.cell (p := ⟨B, 7, none⟩) hBl).trans x23
  replace hBl := lt_of_cell x10
  replace hB := hB.trans (al.mono hB.size)
  clear al
  refine (HS1.out _ _ y0 y1 y2 y3).mono ?_
  rintro e t1 ⟨rfl, hb⟩
  clear y y0 y1 y2 y3
  replace x10 := (hb.cell (p := ⟨B, 0, none⟩) hBl).trans x10
  replace x11 := (hb.cell (p := ⟨B, 1, none⟩) hBl).trans x11
  replace x12 := (hb.cell (p := ⟨B, 2, none⟩) hBl).trans x12
  replace x13 := (hb.cell (p := ⟨B, 3, none⟩) hBl).trans x13
  replace x20 := (hb.cell (p := ⟨B, 4, none⟩) hBl).trans x20
  replace x21 := (hb.cell (p := ⟨B, 5, none⟩) hBl).trans x21
  replace x22 := (hb.cell (p := ⟨B, 6, none⟩) hBl).trans x22
  replace x23 := (hb.cell (p := ⟨B, 7, none⟩) hBl).trans x23
  replace hBl := lt_of_cell x10
  replace hB := hB.trans (hb.mono hB.size)
  clear hb
  cases s1 with
  | false =>
    go_wp2
    go_ret
    exact ⟨by simp, hB⟩
  | true =>
    go_wp2_with fail
    refine (HV1.out _ hB).mono ?_
    rintro e u1 ⟨rfl, hb⟩
    replace x10 := (hb.cell (p := ⟨B, 0, none⟩) hBl).trans x10
    replace x11 := (hb.cell (p := ⟨B, 1, none⟩) hBl).trans x11
    replace x12 := (hb.cell (p := ⟨B, 2, none⟩) hBl).trans x12
    replace x13 := (hb.cell (p := ⟨B, 3, none⟩) hBl).trans x13
    replace x20 := (hb.cell (p := ⟨B, 4, none⟩) hBl).trans x20
    replace x21 := (hb.cell (p := ⟨B, 5, none⟩) hBl).trans x21
    replace x22 := (hb.cell (p := ⟨B, 6, none⟩) hBl).trans x22
    replace x23 := (hb.cell (p := ⟨B, 7, none⟩) hBl).trans x23
    replace hBl := lt_of_cell x10
    replace hB := hB.trans (hb.mono hB.size)
    clear hb
    cases v1 with
    | false =>
      go_wp2
      go_ret
      exact ⟨by simp, hB⟩
    | true =>
      go_wp2_with fail
      rw [rounds_succ]
      go_wp2_with fail
      have al := (Below.refl u1.heap.size u1).alloc (Nat.le_refl _) (.cells #[.bool b2, .slice a2 k2 c2, .bool d2, .slice e2 l2 m2] 26)
      have y := Bk.new u1 #[.bool b2, .slice a2 k2 c2, .bool d2, .slice e2 l2 m2] 26
      obtain ⟨y0, y1, y2, y3⟩ := y.cells4
      replace x10 := (al.cell (p := ⟨B, 0, none⟩) hBl).trans x10
      replace x11 := (al.cell (p := ⟨B, 1, none⟩) hBl).trans x11
      replace x12 := (al.cell (p := ⟨B, 2, none⟩) hBl).trans x12
      replace x13 := (al.cell (p := ⟨B, 3, none⟩) hBl).trans x13
      replace x20 := (al.cell (p := ⟨B, 4, none⟩) hBl).trans x20
      replace x21 := (al.cell (p := ⟨B, 5, none⟩) hBl).trans x21
      replace x22 := (al.cell (p := ⟨B, 6, none⟩) hBl).trans x22
      replace x23 := (al.cell (p := ⟨B, 7, none⟩) hBl).trans x23
      replace hBl := lt_of_cell x10
      replace hB := hB.trans (al.mono hB.size)
      clear al
      refine (HS2.out _ _ y0 y1 y2 y3).mono ?_
      rintro e t2 ⟨rfl, hb⟩
      clear y y0 y1 y2 y3
      replace x10 := (hb.cell (p := ⟨B, 0, none⟩) hBl).trans x10
      replace x11 := (hb.cell (p := ⟨B, 1, none⟩) hBl).trans x11
      replace x12 := (hb.cell (p := ⟨B, 2, none⟩) hBl).trans x12
      replace x13 := (hb.cell (p := ⟨B, 3, none⟩) hBl).trans x13
      replace x20 := (hb.cell (p := ⟨B, 4, none⟩) hBl).trans x20
      replace x21 := (hb.cell (p := ⟨B, 5, none⟩) hBl).trans x21
      replace x22 := (hb.cell (p := ⟨B, 6, none⟩) hBl).trans x22
      replace x23 := (hb.cell (p := ⟨B, 7, none⟩) hBl).trans x23
      replace hBl := lt_of_cell x10
      replace hB := hB.trans (hb.mono hB.size)
      clear hb
      cases s2 with
      | false =>
        go_wp2
        go_ret
        exact ⟨by simp, hB⟩
      | true =>
        go_wp2_with fail
        refine (HV2.out _ hB).mono ?_
        rintro e u2 ⟨rfl, hb⟩
        replace x10 := (hb.cell (p := ⟨B, 0, none⟩) hBl).trans x10
        replace x11 := (hb.cell (p := ⟨B, 1, none⟩) hBl).trans x11
        replace x12 := (hb.cell (p := ⟨B, 2, none⟩) hBl).trans x12
        replace x13 := (hb.cell (p := ⟨B, 3, none⟩) hBl).trans x13
        replace x20 := (hb.cell (p := ⟨B, 4, none⟩) hBl).trans x20
        replace x21 := (hb.cell (p := ⟨B, 5, none⟩) hBl).trans x21
        replace x22 := (hb.cell (p := ⟨B, 6, none⟩) hBl).trans x22
        replace x23 := (hb.cell (p := ⟨B, 7, none⟩) hBl).trans x23
        replace hBl := lt_of_cell x10
        replace hB := hB.trans (hb.mono hB.size)
        clear hb
        cases v2 with
        | false =>
          go_wp2
          go_ret
          exact ⟨by simp, hB⟩
        | true =>
          go_wp2_with fail
          rw [rounds_succ]
          go_wp2
          go_ret
          exact ⟨by simp, hB⟩
theorem usable2_fra (B : Nat) (p : Rat) (q : Rat) (b1 : Bool) (a1 : Option Addr) (k1 c1 : Nat) (d1 : Bool) (e1 : Option Addr) (l1 m1 : Nat) (b2 : Bool) (a2 : Option Addr) (k2 c2 : Nat) (d2 : Bool) (e2 : Option Addr) (l2 m2 : Nat) (w : World) (x10 : w.cell? ⟨B, 0, none⟩ = some (.bool b1)) (x11 : w.cell? ⟨B, 1, none⟩ = some (.slice a1 k1 c1)) (x12 : w.cell? ⟨B, 2, none⟩ = some (.bool d1)) (x13 : w.cell? ⟨B, 3, none⟩ = some (.slice e1 l1 m1)) (x20 : w.cell? ⟨B, 4, none⟩ = some (.bool b2)) (x21 : w.cell? ⟨B, 5, none⟩ = some (.slice a2 k2 c2)) (x22 : w.cell? ⟨B, 6, none⟩ = some (.bool d2)) (x23 : w.cell? ⟨B, 7, none⟩ = some (.slice e2 l2 m2)) (h1 : Fra w (.agg #[.bool b1, .slice a1 k1 c1, .bool d1, .slice e1 l1 m1]) p) (h2 : Fra w (.agg #[.bool b2, .slice a2 k2 c2, .bool d2, .slice e2 l2 m2]) q) (z1 : Fz 40 40 p) (z2 : Fz 40 40 q) :
    Calls Tryz.prog 42 #[.slice (some ⟨B, 0, none⟩) 2 2] w fun e w' => e = .returned (.bool true) ∧ Below w.heap.size w w' := by
  have hu := usable2_any B b1 a1 k1 c1 d1 e1 l1 m1 b2 a2 k2 c2 d2 e2 l2 m2 true true w x10 x11 x12 x13 x20 x21 x22 x23 (fun W hW => frValid_ok _ p (z1.mono (by decide) (by decide)) W (h1.below hW (Nat.le_refl _))) (fun W hW => frValid_ok _ q (z2.mono (by decide) (by decide)) W (h2.below hW (Nat.le_refl _)))
  have len : ∀ {q : Rat} {b a k c d e l m}, Fra w (.agg #[.bool b, .slice a k c, .bool d, .slice e l m]) q → Fz 40 40 q → (decide (k ≤ 40) && decide (l ≤ 40)) = true := fun {q} {b a k c d e l m} h g => by
    obtain ⟨-, -, n1, n2⟩ := fra_nums h
    obtain ⟨g1, g2⟩ := g
    unfold Sz at g1 g2
    rw [(num_len n1).1, (num_len n2).1, decide_eq_true g1, decide_eq_true g2]; rfl
  simp only [len h1 z1, len h2 z2, Bool.and_true] at hu
  exact hu
set_option maxRecDepth 100000 in
set_option maxHeartbeats 1000000 in
theorem law2_sum_any (vx vy : Value) (p q r : Rat) (hz : p + q = r) (hp : Fz 256 256 p) (hq : Fz 256 256 q) (hr : Fz 256 256 r) (w : World) (h : Fra w vx p) (g : Fra w vy q) :
    Calls Tryz.prog 44 #[vx, vy] w fun e w' => (∃ v, e = .returned v ∧ Fra w' v r) ∧ Below w.heap.size w w' := by
  subst hz
  obtain ⟨bx, ax, kx, cx, dx, ex, lx, mx, rfl⟩ := h.opened
  obtain ⟨bY, ay, ky, cy, dy, ey, ly, my, rfl⟩ := g.opened
  have HK := Lib.hid (fun W (hW : Below w.heap.size w W) => frAdd_ok p q bx ax kx cx dx ex lx mx bY ay ky cy dy ey ly my hp hq hr W (h.below hW (Nat.le_refl _)) (g.below hW (Nat.le_refl _)))
  clear h g hp hq hr
  obtain ⟨z, ez⟩ : ∃ z, z = p + q := ⟨_, rfl⟩
  rw [← ez] at HK ⊢
  clear ez
  have hB := Below.refl w.heap.size w
  obtain ⟨al, xa, hN⟩ := mk hB #[.bool bx, .slice ax kx cx, .bool dx, .slice ex lx mx] 26
  replace hB := hN
  clear al hN
  try simp only [World.size_alloc] at xa
  obtain ⟨al, xb, hN⟩ := mk hB #[.bool bY, .slice ay ky cy, .bool dy, .slice ey ly my] 26
  replace xa := xa.on al
  replace hB := hN
  clear al hN
  try simp only [World.size_alloc] at xb
  obtain ⟨al, xc, hN⟩ := mk hB #[.bool false, .slice none 0 0, .bool false, .slice none 0 0] 26
  replace xa := xa.on al
  replace xb := xb.on al
  replace hB := hN
  clear al hN
  try simp only [World.size_alloc] at xc
  go_enter Tryz.func44, Tryz.ntmps44
  have pa := xa.all4
  have pb := xb.all4
  have pc := xc.all4
  have lta := xa.lt
  have ltb := xb.lt
  have ltc := xc.lt
  go_wp2_with fail
  clear lta
  clear ltb
  clear ltc
  clear pa pb pc
  refine (HK.out _ hB).mono ?_
  rintro e w1 ⟨⟨v, rfl, of⟩, hb⟩
  obtain ⟨br, ar, kr, cr, dr, er, lr, mr, rfl⟩ := of.fra.opened
  replace of := of.fra
  replace xa := xa.on hb
  replace xb := xb.on hb
  replace xc := xc.on hb
  have hz1 := hb.size
  try simp at hz1
  replace hB := hB.trans (hb.mono hB.size)
  clear hb
  clear xa xb
  have pc := xc.all4
  have ltc := xc.lt
  go_wp2_with fail
  clear ltc
  clear pc
  replace of := of.setB4 xc rfl (.bool br) (.slice ar kr cr) (.bool dr) (.slice er lr mr) rfl
  replace xc := xc.put4 (.bool br) (.slice ar kr cr) (.bool dr) (.slice er lr mr)
  replace hB := below4 hB (w.heap.size + 1 + 1) (by first | omega | (simp; omega) | simp) (.bool br) (.slice ar kr cr) (.bool dr) (.slice er lr mr)
  obtain ⟨al, xr, hN⟩ := mk hB #[.bool br, .slice ar kr cr, .bool dr, .slice er lr mr] 26
  replace xc := xc.on al
  replace of := of.on al
  replace hB := hN
  clear al hN
  try simp only [World.size_alloc] at xr
  clear xr
  generalize (((((w1.setCell ⟨w.heap.size + 1 + 1, 0, none⟩ (.bool br)).setCell ⟨w.heap.size + 1 + 1, 1, none⟩ (.slice ar kr cr)).setCell ⟨w.heap.size + 1 + 1, 2, none⟩ (.bool dr)).setCell ⟨w.heap.size + 1 + 1, 3, none⟩ (.slice er lr mr)).alloc (.cells #[.bool br, .slice ar kr cr, .bool dr, .slice er lr mr] 26)) = WF at *
  have pc := xc.all4
  have ltc := xc.lt
  exact bodyPost_ret (v := .agg #[.bool br, .slice ar kr cr, .bool dr, .slice er lr mr]) (by simp [results, Tryz.results44, go_sem, pc]) rfl ⟨⟨_, rfl, of⟩, hB⟩
set_option maxRecDepth 100000 in
set_option maxHeartbeats 1000000 in
theorem law2_product_any (vx vy : Value) (p q r : Rat) (hz : p * q = r) (hp : Fz 256 256 p) (hq : Fz 256 256 q) (hr : Fz 256 256 r) (w : World) (h : Fra w vx p) (g : Fra w vy q) :
    Calls Tryz.prog 45 #[vx, vy] w fun e w' => (∃ v, e = .returned v ∧ Fra w' v r) ∧ Below w.heap.size w w' := by
  subst hz
  obtain ⟨bx, ax, kx, cx, dx, ex, lx, mx, rfl⟩ := h.opened
  obtain ⟨bY, ay, ky, cy, dy, ey, ly, my, rfl⟩ := g.opened
  have HK := Lib.hid (fun W (hW : Below w.heap.size w W) => frMul_ok p q bx ax kx cx dx ex lx mx bY ay ky cy dy ey ly my hp hq hr W (h.below hW (Nat.le_refl _)) (g.below hW (Nat.le_refl _)))
  clear h g hp hq hr
  obtain ⟨z, ez⟩ : ∃ z, z = p * q := ⟨_, rfl⟩
  rw [← ez] at HK ⊢
  clear ez
  have hB := Below.refl w.heap.size w
  obtain ⟨al, xa, hN⟩ := mk hB #[.bool bx, .slice ax kx cx, .bool dx, .slice ex lx mx] 26
  replace hB := hN
  clear al hN
  try simp only [World.size_alloc] at xa
  obtain ⟨al, xb, hN⟩ := mk hB #[.bool bY, .slice ay ky cy, .bool dy, .slice ey ly my] 26
  replace xa := xa.on al
  replace hB := hN
  clear al hN
  try simp only [World.size_alloc] at xb
  obtain ⟨al, xc, hN⟩ := mk hB #[.bool false, .slice none 0 0, .bool false, .slice none 0 0] 26
  replace xa := xa.on al
  replace xb := xb.on al
  replace hB := hN
  clear al hN
  try simp only [World.size_alloc] at xc
  go_enter Tryz.func45, Tryz.ntmps45
  have pa := xa.all4
  have pb := xb.all4
  have pc := xc.all4
  have lta := xa.lt
  have ltb := xb.lt
  have ltc := xc.lt
  go_wp2_with fail
  clear lta
  clear ltb
  clear ltc
  clear pa pb pc
  refine (HK.out _ hB).mono ?_
  rintro e w1 ⟨⟨v, rfl, of⟩, hb⟩
  obtain ⟨br, ar, kr, cr, dr, er, lr, mr, rfl⟩ := of.fra.opened
  replace of := of.fra
  replace xa := xa.on hb
  replace xb := xb.on hb
  replace xc := xc.on hb
  have hz1 := hb.size
  try simp at hz1
  replace hB := hB.trans (hb.mono hB.size)
  clear hb
  clear xa xb
  have pc := xc.all4
  have ltc := xc.lt
  go_wp2_with fail
  clear ltc
  clear pc
  replace of := of.setB4 xc rfl (.bool br) (.slice ar kr cr) (.bool dr) (.slice er lr mr) rfl
  replace xc := xc.put4 (.bool br) (.slice ar kr cr) (.bool dr) (.slice er lr mr)
  replace hB := below4 hB (w.heap.size + 1 + 1) (by first | omega | (simp; omega) | simp) (.bool br) (.slice ar kr cr) (.bool dr) (.slice er lr mr)
  obtain ⟨al, xr, hN⟩ := mk hB #[.bool br, .slice ar kr cr, .bool dr, .slice er lr mr] 26
  replace xc := xc.on al
  replace of := of.on al
  replace hB := hN
  clear al hN
  try simp only [World.size_alloc] at xr
  clear xr
  generalize (((((w1.setCell ⟨w.heap.size + 1 + 1, 0, none⟩ (.bool br)).setCell ⟨w.heap.size + 1 + 1, 1, none⟩ (.slice ar kr cr)).setCell ⟨w.heap.size + 1 + 1, 2, none⟩ (.bool dr)).setCell ⟨w.heap.size + 1 + 1, 3, none⟩ (.slice er lr mr)).alloc (.cells #[.bool br, .slice ar kr cr, .bool dr, .slice er lr mr] 26)) = WF at *
  have pc := xc.all4
  have ltc := xc.lt
  exact bodyPost_ret (v := .agg #[.bool br, .slice ar kr cr, .bool dr, .slice er lr mr]) (by simp [results, Tryz.results45, go_sem, pc]) rfl ⟨⟨_, rfl, of⟩, hB⟩
set_option maxRecDepth 100000 in
set_option maxHeartbeats 1000000 in
theorem law2_less_any (vx vy : Value) (p q r : Rat) (hz : p - q = r) (hp : Fz 256 256 p) (hq : Fz 256 256 q) (hr : Fz 256 256 r) (w : World) (h : Fra w vx p) (g : Fra w vy q) :
    Calls Tryz.prog 46 #[vx, vy] w fun e w' => (∃ v, e = .returned v ∧ Fra w' v r) ∧ Below w.heap.size w w' := by
  subst hz
  obtain ⟨bx, ax, kx, cx, dx, ex, lx, mx, rfl⟩ := h.opened
  obtain ⟨bY, ay, ky, cy, dy, ey, ly, my, rfl⟩ := g.opened
  have HK := Lib.hid (fun W (hW : Below w.heap.size w W) => frSub_ok p q bx ax kx cx dx ex lx mx bY ay ky cy dy ey ly my hp hq hr W (h.below hW (Nat.le_refl _)) (g.below hW (Nat.le_refl _)))
  clear h g hp hq hr
  obtain ⟨z, ez⟩ : ∃ z, z = p - q := ⟨_, rfl⟩
  rw [← ez] at HK ⊢
  clear ez
  have hB := Below.refl w.heap.size w
  obtain ⟨al, xa, hN⟩ := mk hB #[.bool bx, .slice ax kx cx, .bool dx, .slice ex lx mx] 26
  replace hB := hN
  clear al hN
  try simp only [World.size_alloc] at xa
  obtain ⟨al, xb, hN⟩ := mk hB #[.bool bY, .slice ay ky cy, .bool dy, .slice ey ly my] 26
  replace xa := xa.on al
  replace hB := hN
  clear al hN
  try simp only [World.size_alloc] at xb
  obtain ⟨al, xc, hN⟩ := mk hB #[.bool false, .slice none 0 0, .bool false, .slice none 0 0] 26
  replace xa := xa.on al
  replace xb := xb.on al
  replace hB := hN
  clear al hN
  try simp only [World.size_alloc] at xc
  go_enter Tryz.func46, Tryz.ntmps46
  have pa := xa.all4
  have pb := xb.all4
  have pc := xc.all4
  have lta := xa.lt
  have ltb := xb.lt
  have ltc := xc.lt
  go_wp2_with fail
  clear lta
  clear ltb
  clear ltc
  clear pa pb pc
  refine (HK.out _ hB).mono ?_
  rintro e w1 ⟨⟨v, rfl, of⟩, hb⟩
  obtain ⟨br, ar, kr, cr, dr, er, lr, mr, rfl⟩ := of.fra.opened
  replace of := of.fra
  replace xa := xa.on hb
  replace xb := xb.on hb
  replace xc := xc.on hb
  have hz1 := hb.size
  try simp at hz1
  replace hB := hB.trans (hb.mono hB.size)
  clear hb
  clear xa xb
  have pc := xc.all4
  have ltc := xc.lt
  go_wp2_with fail
  clear ltc
  clear pc
  replace of := of.setB4 xc rfl (.bool br) (.slice ar kr cr) (.bool dr) (.slice er lr mr) rfl
  replace xc := xc.put4 (.bool br) (.slice ar kr cr) (.bool dr) (.slice er lr mr)
  replace hB := below4 hB (w.heap.size + 1 + 1) (by first | omega | (simp; omega) | simp) (.bool br) (.slice ar kr cr) (.bool dr) (.slice er lr mr)
  obtain ⟨al, xr, hN⟩ := mk hB #[.bool br, .slice ar kr cr, .bool dr, .slice er lr mr] 26
  replace xc := xc.on al
  replace of := of.on al
  replace hB := hN
  clear al hN
  try simp only [World.size_alloc] at xr
  clear xr
  generalize (((((w1.setCell ⟨w.heap.size + 1 + 1, 0, none⟩ (.bool br)).setCell ⟨w.heap.size + 1 + 1, 1, none⟩ (.slice ar kr cr)).setCell ⟨w.heap.size + 1 + 1, 2, none⟩ (.bool dr)).setCell ⟨w.heap.size + 1 + 1, 3, none⟩ (.slice er lr mr)).alloc (.cells #[.bool br, .slice ar kr cr, .bool dr, .slice er lr mr] 26)) = WF at *
  have pc := xc.all4
  have ltc := xc.lt
  exact bodyPost_ret (v := .agg #[.bool br, .slice ar kr cr, .bool dr, .slice er lr mr]) (by simp [results, Tryz.results46, go_sem, pc]) rfl ⟨⟨_, rfl, of⟩, hB⟩
set_option maxRecDepth 100000 in
set_option maxHeartbeats 1000000 in
theorem law2_over_any (vx vy : Value) (p q r : Rat) (hz : p / q = r) (hq0 : q ≠ 0) (hp : Fz 256 256 p) (hq : Fz 256 256 q) (hr : Fz 256 256 r) (w : World) (h : Fra w vx p) (g : Fra w vy q) :
    Calls Tryz.prog 49 #[vx, vy] w fun e w' => (∃ v, e = .returned v ∧ Fra w' v r) ∧ Below w.heap.size w w' := by
  subst hz
  obtain ⟨bx, ax, kx, cx, dx, ex, lx, mx, rfl⟩ := h.opened
  obtain ⟨bY, ay, ky, cy, dy, ey, ly, my, rfl⟩ := g.opened
  have HK := Lib.hid (fun W (hW : Below w.heap.size w W) => frDiv_ok p q bx ax kx cx dx ex lx mx bY ay ky cy dy ey ly my hp hq hq0 hr W (h.below hW (Nat.le_refl _)) (g.below hW (Nat.le_refl _)))
  clear h g hp hq hr hq0
  obtain ⟨z, ez⟩ : ∃ z, z = p / q := ⟨_, rfl⟩
  rw [← ez] at HK ⊢
  clear ez
  have hB := Below.refl w.heap.size w
  obtain ⟨al, xa, hN⟩ := mk hB #[.bool bx, .slice ax kx cx, .bool dx, .slice ex lx mx] 26
  replace hB := hN
  clear al hN
  try simp only [World.size_alloc] at xa
  obtain ⟨al, xb, hN⟩ := mk hB #[.bool bY, .slice ay ky cy, .bool dy, .slice ey ly my] 26
  replace xa := xa.on al
  replace hB := hN
  clear al hN
  try simp only [World.size_alloc] at xb
  obtain ⟨al, xc, hN⟩ := mk hB #[.bool false, .slice none 0 0, .bool false, .slice none 0 0] 26
  replace xa := xa.on al
  replace xb := xb.on al
  replace hB := hN
  clear al hN
  try simp only [World.size_alloc] at xc
  go_enter Tryz.func49, Tryz.ntmps49
  have pa := xa.all4
  have pb := xb.all4
  have pc := xc.all4
  have lta := xa.lt
  have ltb := xb.lt
  have ltc := xc.lt
  go_wp2_with fail
  clear lta
  clear ltb
  clear ltc
  clear pa pb pc
  refine (HK.out _ hB).mono ?_
  rintro e w1 ⟨⟨v, rfl, of⟩, hb⟩
  obtain ⟨br, ar, kr, cr, dr, er, lr, mr, rfl⟩ := of.fra.opened
  replace of := of.fra
  replace xa := xa.on hb
  replace xb := xb.on hb
  replace xc := xc.on hb
  have hz1 := hb.size
  try simp at hz1
  replace hB := hB.trans (hb.mono hB.size)
  clear hb
  clear xa xb
  have pc := xc.all4
  have ltc := xc.lt
  go_wp2_with fail
  clear ltc
  clear pc
  replace of := of.setB4 xc rfl (.bool br) (.slice ar kr cr) (.bool dr) (.slice er lr mr) rfl
  replace xc := xc.put4 (.bool br) (.slice ar kr cr) (.bool dr) (.slice er lr mr)
  replace hB := below4 hB (w.heap.size + 1 + 1) (by first | omega | (simp; omega) | simp) (.bool br) (.slice ar kr cr) (.bool dr) (.slice er lr mr)
  obtain ⟨al, xr, hN⟩ := mk hB #[.bool br, .slice ar kr cr, .bool dr, .slice er lr mr] 26
  replace xc := xc.on al
  replace of := of.on al
  replace hB := hN
  clear al hN
  try simp only [World.size_alloc] at xr
  clear xr
  generalize (((((w1.setCell ⟨w.heap.size + 1 + 1, 0, none⟩ (.bool br)).setCell ⟨w.heap.size + 1 + 1, 1, none⟩ (.slice ar kr cr)).setCell ⟨w.heap.size + 1 + 1, 2, none⟩ (.bool dr)).setCell ⟨w.heap.size + 1 + 1, 3, none⟩ (.slice er lr mr)).alloc (.cells #[.bool br, .slice ar kr cr, .bool dr, .slice er lr mr] 26)) = WF at *
  have pc := xc.all4
  have ltc := xc.lt
  exact bodyPost_ret (v := .agg #[.bool br, .slice ar kr cr, .bool dr, .slice er lr mr]) (by simp [results, Tryz.results49, go_sem, pc]) rfl ⟨⟨_, rfl, of⟩, hB⟩
set_option maxRecDepth 100000 in
set_option maxHeartbeats 1000000 in
theorem law2_equal_any (vx vy : Value) (p : Rat) (hp : Fz 256 256 p) (w : World) (h : Fra w vx p) (g : Fra w vy p) :
    Calls Tryz.prog 43 #[vx, vy] w fun e w' => e = .returned (.bool true) ∧ Below w.heap.size w w' := by
  have HV := Lib.hid (fun v W (h : Fra W v p) => frValid_ok v p hp W h)
  have HS := fun va vb W (h : Fra W va p) (g : Fra W vb p) => ref2Same_fra va vb p p W h g
  rw [decide_eq_true rfl] at HS
  replace HS := Lib.hid HS
  clear hp
  obtain ⟨bx, ax, kx, cx, dx, ex, lx, mx, rfl⟩ := h.opened
  obtain ⟨bY, ay, ky, cy, dy, ey, ly, my, rfl⟩ := g.opened
  have hB := Below.refl w.heap.size w
  obtain ⟨al, xa, hN⟩ := mk hB #[.bool bx, .slice ax kx cx, .bool dx, .slice ex lx mx] 26
  replace h := h.on al
  replace g := g.on al
  replace hB := hN
  clear al hN
  try simp only [World.size_alloc] at xa
  obtain ⟨al, xb, hN⟩ := mk hB #[.bool bY, .slice ay ky cy, .bool dy, .slice ey ly my] 26
  replace xa := xa.on al
  replace h := h.on al
  replace g := g.on al
  replace hB := hN
  clear al hN
  try simp only [World.size_alloc] at xb
  go_enter Tryz.func43, Tryz.ntmps43
  have pa := xa.all4
  have pb := xb.all4
  have lta := xa.lt
  have ltb := xb.lt
  go_wp2_with fail
  clear lta
  clear ltb
  clear pa pb
  refine (HV.out _ _ h).mono ?_
  rintro e w1 ⟨rfl, hb⟩
  replace xa := xa.on hb
  replace xb := xb.on hb
  replace h := h.on hb
  replace g := g.on hb
  have hz1 := hb.size
  try simp at hz1
  replace hB := hB.trans (hb.mono hB.size)
  clear hb
  have pa := xa.all4
  have pb := xb.all4
  have lta := xa.lt
  have ltb := xb.lt
  go_wp2_with fail
  clear lta
  clear ltb
  clear pa pb
  refine (HV.out _ _ g).mono ?_
  rintro e w2 ⟨rfl, hb⟩
  replace xa := xa.on hb
  replace xb := xb.on hb
  replace h := h.on hb
  replace g := g.on hb
  have hz2 := hb.size
  try simp at hz2
  replace hB := hB.trans (hb.mono hB.size)
  clear hb
  have pa := xa.all4
  have pb := xb.all4
  have lta := xa.lt
  have ltb := xb.lt
  go_wp2_with fail
  clear lta
  clear ltb
  clear pa pb
  refine (HS.out _ _ _ h g).mono ?_
  rintro e w3 ⟨rfl, hb⟩
  replace xa := xa.on hb
  replace xb := xb.on hb
  replace h := h.on hb
  replace g := g.on hb
  have hz3 := hb.size
  try simp at hz3
  replace hB := hB.trans (hb.mono hB.size)
  clear hb
  go_wp2
  go_ret
  exact ⟨rfl, hB⟩
end Go.Proofs.YtnnnhjgmgomlpaaGreat
namespace Go.Proofs.YtnnnhjgmgomlpaaGreat
open Go.RowKit Wh
set_option maxRecDepth 100000 in
set_option maxHeartbeats 1000000 in
theorem frInt_bad (b : Bool) (a : Option Addr) (k c : Nat) (b' : Bool) (a' : Option Addr) (k' c' : Nat) (l l' : List Nat) (hv : fvld b l b' l' = false) (w : World) (h : Lim w (.slice a k c) l) (hm : Lm l) (h' : Lim w (.slice a' k' c') l') (hm' : Lm l') :
    Calls Tryz.prog 40 #[.agg #[.bool b, .slice a k c, .bool b', .slice a' k' c']] w fun e w' => e = .returned (.tuple #[.int .i64 0, .int .i64 2]) ∧ Below w.heap.size w w' := by
  have hv' := fun W (hW : Below w.heap.size w W) => valid_raw b a k c l b' a' k' c' l' W (h.below hW (Nat.le_refl _)) hm (h'.below hW (Nat.le_refl _)) hm'
  rw [hv] at hv'
  have HV := Lib.hid hv'
  clear h hm h' hm' hv hv'
  have hB := Below.refl w.heap.size w
  obtain ⟨al, xa, hN⟩ := mk hB #[.bool b, .slice a k c, .bool b', .slice a' k' c'] 26
  replace hB := hN
  clear al hN
  try simp only [World.size_alloc] at xa
  go_enter Tryz.func40, Tryz.ntmps40
  obtain ⟨al, xx, hN⟩ := mk hB #[.bool b, .slice a k c, .bool b', .slice a' k' c'] 85
  replace xa := xa.on al
  replace hB := hN
  clear al hN
  try simp only [World.size_alloc] at xx
  have pa := xa.all4
  have px := xx.all4
  go_wp2_with fail
  clear pa px
  refine (HV.out _ hB).mono ?_
  rintro e w1 ⟨rfl, hb⟩
  replace xa := xa.on hb
  replace xx := xx.on hb
  have hz1 := hb.size
  try simp at hz1
  replace hB := hB.trans (hb.mono hB.size)
  clear hb
  clear xa
  have px := xx.all4
  have HB := Lib.hid hB
  clear hB
  go_wp2
  exact bodyPost_ret (v := .tuple #[.int .i64 0, .int .i64 2]) (by simp [results, Tryz.results40, go_sem]) rfl ⟨rfl, HB.out⟩
set_option maxRecDepth 100000 in
set_option maxHeartbeats 1000000 in
theorem frFloor_bad (b : Bool) (a : Option Addr) (k c : Nat) (b' : Bool) (a' : Option Addr) (k' c' : Nat) (l l' : List Nat) (hv : fvld b l b' l' = false) (w : World) (h : Lim w (.slice a k c) l) (hm : Lm l) (h' : Lim w (.slice a' k' c') l') (hm' : Lm l') :
    Calls Tryz.prog 57 #[.agg #[.bool b, .slice a k c, .bool b', .slice a' k' c']] w fun e w' => e = .returned (.tuple #[.agg #[.bool false, .slice none 0 0], .int .i64 2]) ∧ Below w.heap.size w w' := by
  have hv' := fun W (hW : Below w.heap.size w W) => valid_raw b a k c l b' a' k' c' l' W (h.below hW (Nat.le_refl _)) hm (h'.below hW (Nat.le_refl _)) hm'
  rw [hv] at hv'
  have HV := Lib.hid hv'
  clear h hm h' hm' hv hv'
  have hB := Below.refl w.heap.size w
  obtain ⟨al, xa, hN⟩ := mk hB #[.bool b, .slice a k c, .bool b', .slice a' k' c'] 26
  replace hB := hN
  clear al hN
  try simp only [World.size_alloc] at xa
  obtain ⟨al, xr, hN⟩ := mk hB #[.bool false, .slice none 0 0] 24
  replace xa := xa.on al
  replace hB := hN
  clear al hN
  try simp only [World.size_alloc] at xr
  go_enter Tryz.func57, Tryz.ntmps57
  obtain ⟨al, xx, hN⟩ := mk hB #[.bool b, .slice a k c, .bool b', .slice a' k' c'] 85
  replace xa := xa.on al
  replace xr := xr.on al
  replace hB := hN
  clear al hN
  try simp only [World.size_alloc] at xx
  have pa := xa.all4
  have pr := xr.all2
  have px := xx.all4
  go_wp2_with fail
  clear pa pr px
  refine (HV.out _ hB).mono ?_
  rintro e w1 ⟨rfl, hb⟩
  replace xa := xa.on hb
  replace xr := xr.on hb
  replace xx := xx.on hb
  have hz1 := hb.size
  try simp at hz1
  replace hB := hB.trans (hb.mono hB.size)
  clear hb
  clear xa
  have pr := xr.all2
  have px := xx.all4
  go_wp2_with fail
  clear pr px
  clear xx
  replace xr : Bk _ (w.heap.size + 1) #[.bool false, .slice none 0 0] _ := xr.put 0 (.bool false)
  replace hB := hB.setCell (p := ⟨w.heap.size + 1, 0, none⟩) (by first | omega | (simp; omega) | simp) (.bool false)
  replace xr : Bk _ (w.heap.size + 1) #[.bool false, .slice none 0 0] _ := xr.put 1 (.slice none 0 0)
  replace hB := hB.setCell (p := ⟨w.heap.size + 1, 1, none⟩) (by first | omega | (simp; omega) | simp) (.slice none 0 0)
  generalize ((w1.setCell ⟨w.heap.size + 1, 0, none⟩ (.bool false)).setCell ⟨w.heap.size + 1, 1, none⟩ (.slice none 0 0)) = WF at *
  have pr := xr.all2
  exact bodyPost_ret (v := .tuple #[.agg #[.bool false, .slice none 0 0], .int .i64 2]) (by simp [results, Tryz.results57, go_sem, pr]) rfl ⟨rfl, hB⟩
set_option maxRecDepth 100000 in
set_option maxHeartbeats 1000000 in
theorem frCeil_bad (b : Bool) (a : Option Addr) (k c : Nat) (b' : Bool) (a' : Option Addr) (k' c' : Nat) (l l' : List Nat) (hv : fvld b l b' l' = false) (w : World) (h : Lim w (.slice a k c) l) (hm : Lm l) (h' : Lim w (.slice a' k' c') l') (hm' : Lm l') :
    Calls Tryz.prog 58 #[.agg #[.bool b, .slice a k c, .bool b', .slice a' k' c']] w fun e w' => e = .returned (.tuple #[.agg #[.bool false, .slice none 0 0], .int .i64 2]) ∧ Below w.heap.size w w' := by
  have hv' := fun W (hW : Below w.heap.size w W) => valid_raw b a k c l b' a' k' c' l' W (h.below hW (Nat.le_refl _)) hm (h'.below hW (Nat.le_refl _)) hm'
  rw [hv] at hv'
  have HV := Lib.hid hv'
  clear h hm h' hm' hv hv'
  have hB := Below.refl w.heap.size w
  obtain ⟨al, xa, hN⟩ := mk hB #[.bool b, .slice a k c, .bool b', .slice a' k' c'] 26
  replace hB := hN
  clear al hN
  try simp only [World.size_alloc] at xa
  obtain ⟨al, xr, hN⟩ := mk hB #[.bool false, .slice none 0 0] 24
  replace xa := xa.on al
  replace hB := hN
  clear al hN
  try simp only [World.size_alloc] at xr
  go_enter Tryz.func58, Tryz.ntmps58
  obtain ⟨al, xx, hN⟩ := mk hB #[.bool b, .slice a k c, .bool b', .slice a' k' c'] 85
  replace xa := xa.on al
  replace xr := xr.on al
  replace hB := hN
  clear al hN
  try simp only [World.size_alloc] at xx
  have pa := xa.all4
  have pr := xr.all2
  have px := xx.all4
  go_wp2_with fail
  clear pa pr px
  refine (HV.out _ hB).mono ?_
  rintro e w1 ⟨rfl, hb⟩
  replace xa := xa.on hb
  replace xr := xr.on hb
  replace xx := xx.on hb
  have hz1 := hb.size
  try simp at hz1
  replace hB := hB.trans (hb.mono hB.size)
  clear hb
  clear xa
  have pr := xr.all2
  have px := xx.all4
  go_wp2_with fail
  clear pr px
  clear xx
  replace xr : Bk _ (w.heap.size + 1) #[.bool false, .slice none 0 0] _ := xr.put 0 (.bool false)
  replace hB := hB.setCell (p := ⟨w.heap.size + 1, 0, none⟩) (by first | omega | (simp; omega) | simp) (.bool false)
  replace xr : Bk _ (w.heap.size + 1) #[.bool false, .slice none 0 0] _ := xr.put 1 (.slice none 0 0)
  replace hB := hB.setCell (p := ⟨w.heap.size + 1, 1, none⟩) (by first | omega | (simp; omega) | simp) (.slice none 0 0)
  generalize ((w1.setCell ⟨w.heap.size + 1, 0, none⟩ (.bool false)).setCell ⟨w.heap.size + 1, 1, none⟩ (.slice none 0 0)) = WF at *
  have pr := xr.all2
  exact bodyPost_ret (v := .tuple #[.agg #[.bool false, .slice none 0 0], .int .i64 2]) (by simp [results, Tryz.results58, go_sem, pr]) rfl ⟨rfl, hB⟩
end Go.Proofs.YtnnnhjgmgomlpaaGreat
