/- A part of the proofs about fractions. -/
import Derived.Test.YthlclegajldphaaGreatQz1
import Derived.Test.YthlclegajldphaaGreatQz2
import Derived.Test.YthlclegajldphaaGreatQz3
import Derived.Test.YthlclegajldphaaGreatQz4
import Derived.Test.YthlclegajldphaaGreatQz5
import Derived.Test.YthlclegajldphaaGreatQz6
import Derived.Test.YthlclegajldphaaGreatQz7
import Derived.Test.YthlclegajldphaaGreatQz8
import Derived.Test.YthlclegajldphaaGreatQz9
import Derived.Test.YthlclegajldphaaGreatQz10
import Derived.Test.YthlclegajldphaaGreatQz11
import Derived.Test.YthlclegajldphaaGreatQz12
import Derived.Test.YthlclegajldphaaGreatQz13
import Derived.Test.YthlclegajldphaaGreatQz14
import Derived.Test.YthlclegajldphaaGreatQz15
import Derived.Test.YthlclegajldphaaGreatQz16
import Derived.Test.YthlclegajldphaaGreatQz17
import Derived.Test.YthlclegajldphaaGreatQz18
import Derived.Test.YthlclegajldphaaGreatQz19
import Derived.Test.YthlclegajldphaaGreatQz20
import Derived.Test.YthlclegajldphaaGreatQz21
import Derived.Test.YthlclegajldphaaGreatQz22
import Derived.Test.YthlclegajldphaaGreatQz23
import Derived.Test.YthlclegajldphaaGreatQz24
import Derived.Test.YthlclegajldphaaGreatQz25
import Derived.Test.YthlclegajldphaaGreatQz26
import Derived.Test.YthlclegajldphaaGreatQz27
import Derived.Test.YthlclegajldphaaGreatQz28
import Derived.Test.YthlclegajldphaaGreatRows
namespace Go.Proofs.YthlclegajldphaaGreat
open Go.RowKit Wh
set_option maxRecDepth 100000 in
set_option maxHeartbeats 1000000 in
theorem frPow_zero (b : Bool) (a : Option Addr) (k c : Nat) (b' : Bool) (a' : Option Addr) (k' c' : Nat) (q : Rat) (hq : Fz 256 256 q) (m : Nat) (hm : 1 ≤ m) (hq0 : q = 0) (w : World) (h : Fra w (.agg #[.bool b, .slice a k c, .bool b', .slice a' k' c']) q) :
    Calls Tryz.prog 32 #[.agg #[.bool b, .slice a k c, .bool b', .slice a' k' c'], .int .i64 (-(m : Int))] w fun e w' => e = .returned (.tuple #[zeroF, .int .i64 20]) ∧ Below w.heap.size w w' := by
  have HV := Lib.hid (fun W (hW : Below w.heap.size w W) => valid_ok (.agg #[.bool b, .slice a k c, .bool b', .slice a' k' c']) q hq W (h.below hW (Nat.le_refl _)))
  obtain ⟨eb, eb', n1, n2⟩ := fra_nums h
  obtain ⟨h1, h2⟩ := hq
  have HZ := Lib.hid (fun W (hW : Below w.heap.size w W) => isZero_num _ q.num W (n1.below hW (Nat.le_refl _)))
  have HQ0 : decide (q.num = 0) = true := decide_eq_true ((Fq.num_zero q).2 hq0)
  rw [HQ0] at HZ
  clear HQ0 hq0
  clear h n1 n2 h1 h2 eb eb'
  have hB := Below.refl w.heap.size w
  obtain ⟨al, xa, hN⟩ := mk hB #[.bool b, .slice a k c, .bool b', .slice a' k' c'] 26
  replace hB := hN
  clear al hN
  try simp only [World.size_alloc] at xa
  obtain ⟨al, xr, hN⟩ := mk hB #[.bool false, .slice none 0 0, .bool false, .slice none 0 0] 26
  replace xa := xa.on al
  replace hB := hN
  clear al hN
  try simp only [World.size_alloc] at xr
  go_enter Tryz.func32, Tryz.ntmps32
  obtain ⟨al, xx, hN⟩ := mk hB #[.bool b, .slice a k c, .bool b', .slice a' k' c'] 85
  replace xa := xa.on al
  replace xr := xr.on al
  replace hB := hN
  clear al hN
  try simp only [World.size_alloc] at xx
  have pa := xa.all4
  have pr := xr.all4
  have px := xx.all4
  go_wp2_with fail
  clear pa pr px
  refine (HV.out _ hB).mono ?_
  rintro e w1 ⟨rfl, hb⟩
  replace xa := xa.on hb
  replace xr := xr.on hb
  replace xx := xx.on hb
  have hz1 := hb.size
  try simp at hz1
  replace hB := hB.trans (hb.mono hB.size)
  clear hb
  clear xa
  have pr := xr.all4
  have px := xx.all4
  go_wp2_with fail
  clear pr px
  have pr := xr.all4
  have px := xx.all4
  clear pr px
  refine (HZ.out _ hB).mono ?_
  rintro e w2 ⟨rfl, hb⟩
  replace xr := xr.on hb
  replace xx := xx.on hb
  have hz2 := hb.size
  try simp at hz2
  replace hB := hB.trans (hb.mono hB.size)
  clear hb
  have pr := xr.all4
  have px := xx.all4
  go_wp2_with fail
  clear pr px
  clear xx
  replace xr := xr.put4 (.bool false) (.slice none 0 0) (.bool false) (.slice none 0 0)
  replace hB := below4 hB (w.heap.size + 1) (by first | omega | (simp; omega) | simp) (.bool false) (.slice none 0 0) (.bool false) (.slice none 0 0)
  generalize ((((w2.setCell ⟨w.heap.size + 1, 0, none⟩ (.bool false)).setCell ⟨w.heap.size + 1, 1, none⟩ (.slice none 0 0)).setCell ⟨w.heap.size + 1, 2, none⟩ (.bool false)).setCell ⟨w.heap.size + 1, 3, none⟩ (.slice none 0 0)) = WF at *
  have pr := xr.all4
  exact bodyPost_ret (v := .tuple #[.agg #[.bool false, .slice none 0 0, .bool false, .slice none 0 0], .int .i64 20]) (by simp [results, Tryz.results32, go_sem, pr]) rfl ⟨rfl, hB⟩
end Go.Proofs.YthlclegajldphaaGreat
namespace Go.Proofs.YthlclegajldphaaGreat
open Go.RowKit Wh
set_option maxRecDepth 100000 in
set_option maxHeartbeats 2000000 in
theorem short2_any (M B : Nat) (b1 : Bool) (a1 : Option Addr) (k1 c1 : Nat) (d1 : Bool) (e1 : Option Addr) (l1 m1 : Nat) (b2 : Bool) (a2 : Option Addr) (k2 c2 : Nat) (d2 : Bool) (e2 : Option Addr) (l2 m2 : Nat) (w : World) (_x10 : w.cell? ⟨B, 0, none⟩ = some (.bool b1)) (x11 : w.cell? ⟨B, 1, none⟩ = some (.slice a1 k1 c1)) (_x12 : w.cell? ⟨B, 2, none⟩ = some (.bool d1)) (x13 : w.cell? ⟨B, 3, none⟩ = some (.slice e1 l1 m1)) (_x20 : w.cell? ⟨B, 4, none⟩ = some (.bool b2)) (x21 : w.cell? ⟨B, 5, none⟩ = some (.slice a2 k2 c2)) (_x22 : w.cell? ⟨B, 6, none⟩ = some (.bool d2)) (x23 : w.cell? ⟨B, 7, none⟩ = some (.slice e2 l2 m2)) :
    Calls Tryz.prog 15 #[.int .i64 (M : Int), .slice (some ⟨B, 0, none⟩) 2 2] w fun e w' => e = .returned (.bool ((decide (k1 ≤ M) && decide (l1 ≤ M)) && (decide (k2 ≤ M) && decide (l2 ≤ M)))) ∧ Below w.heap.size w w' := by
  have hB := Below.refl w.heap.size w
  go_enter Tryz.func15, Tryz.ntmps15
  go_wp2_with fail
  refine wp_loop_rounds 3 ?_
  rw [rounds_succ]
  rcases Nat.lt_or_ge M k1 with t1 | t1
  · have t1' : (M : Int) < (k1 : Int) := by omega
    have T := Lib.hid (show decide (k1 ≤ M) = false from decide_eq_false (by omega))
    go_wp2
    go_ret
    exact ⟨by simp [T.out], hB⟩
  · have t1' : ¬ (M : Int) < (k1 : Int) := by omega
    rcases Nat.lt_or_ge M l1 with u1 | u1
    · have u1' : (M : Int) < (l1 : Int) := by omega
      have T := Lib.hid (show decide (l1 ≤ M) = false from decide_eq_false (by omega))
      go_wp2
      go_ret
      exact ⟨by simp [T.out], hB⟩
    · have u1' : ¬ (M : Int) < (l1 : Int) := by omega
      go_wp2_with fail
      rw [rounds_succ]
      rcases Nat.lt_or_ge M k2 with t2 | t2
      · have t2' : (M : Int) < (k2 : Int) := by omega
        have T := Lib.hid (show decide (k2 ≤ M) = false from decide_eq_false (by omega))
        go_wp2
        go_ret
        exact ⟨by simp [T.out], hB⟩
      · have t2' : ¬ (M : Int) < (k2 : Int) := by omega
        rcases Nat.lt_or_ge M l2 with u2 | u2
        · have u2' : (M : Int) < (l2 : Int) := by omega
          have T := Lib.hid (show decide (l2 ≤ M) = false from decide_eq_false (by omega))
          go_wp2
          go_ret
          exact ⟨by simp [T.out], hB⟩
        · have u2' : ¬ (M : Int) < (l2 : Int) := by omega
          go_wp2_with fail
          rw [rounds_succ]
          go_wp2
          go_ret
          exact ⟨by simp [t1, u1, t2, u2], hB⟩
set_option maxRecDepth 100000 in
set_option maxHeartbeats 4000000 in
theorem usable2_any (B : Nat) (b1 : Bool) (a1 : Option Addr) (k1 c1 : Nat) (d1 : Bool) (e1 : Option Addr) (l1 m1 : Nat) (b2 : Bool) (a2 : Option Addr) (k2 c2 : Nat) (d2 : Bool) (e2 : Option Addr) (l2 m2 : Nat) (v1 v2 : Bool) (w : World) (x10 : w.cell? ⟨B, 0, none⟩ = some (.bool b1)) (x11 : w.cell? ⟨B, 1, none⟩ = some (.slice a1 k1 c1)) (x12 : w.cell? ⟨B, 2, none⟩ = some (.bool d1)) (x13 : w.cell? ⟨B, 3, none⟩ = some (.slice e1 l1 m1)) (x20 : w.cell? ⟨B, 4, none⟩ = some (.bool b2)) (x21 : w.cell? ⟨B, 5, none⟩ = some (.slice a2 k2 c2)) (x22 : w.cell? ⟨B, 6, none⟩ = some (.bool d2)) (x23 : w.cell? ⟨B, 7, none⟩ = some (.slice e2 l2 m2)) (hv1 : ∀ W, Below w.heap.size w W → Calls Tryz.prog 51 #[.agg #[.bool b1, .slice a1 k1 c1, .bool d1, .slice e1 l1 m1]] W fun e w' => e = .returned (.bool v1) ∧ Below W.heap.size W w') (hv2 : ∀ W, Below w.heap.size w W → Calls Tryz.prog 51 #[.agg #[.bool b2, .slice a2 k2 c2, .bool d2, .slice e2 l2 m2]] W fun e w' => e = .returned (.bool v2) ∧ Below W.heap.size W w') :
    Calls Tryz.prog 42 #[.slice (some ⟨B, 0, none⟩) 2 2] w fun e w' => e = .returned (.bool (((decide (k1 ≤ 40) && decide (l1 ≤ 40)) && v1) && ((decide (k2 ≤ 40) && decide (l2 ≤ 40)) && v2))) ∧ Below w.heap.size w w' := by
  have hBl := lt_of_cell x10
  have hB := Below.refl w.heap.size w
  have hs1 := fun B W x0 x1 x2 x3 => short1_any 40 B b1 a1 k1 c1 d1 e1 l1 m1 W x0 x1 x2 x3
  obtain ⟨s1, es1⟩ : ∃ s, s = (decide (k1 ≤ 40) && decide (l1 ≤ 40)) := ⟨_, rfl⟩
  rw [← es1] at hs1 ⊢
  have HS1 := Lib.hid hs1
  have HV1 := Lib.hid hv1
  clear hs1 es1 hv1
  have hs2 := fun B W x0 x1 x2 x3 => short1_any 40 B b2 a2 k2 c2 d2 e2 l2 m2 W x0 x1 x2 x3
  obtain ⟨s2, es2⟩ : ∃ s, s = (decide (k2 ≤ 40) && decide (l2 ≤ 40)) := ⟨_, rfl⟩
  rw [← es2] at hs2 ⊢
  have HS2 := Lib.hid hs2
  have HV2 := Lib.hid hv2
  clear hs2 es2 hv2
  go_enter Tryz.func42, Tryz.ntmps42
  go_wp2_with fail
  refine wp_loop_rounds 3 ?_
  rw [rounds_succ]
  go_wp2_with fail
  have al := (Below.refl w.heap.size w).alloc (Nat.le_refl _) (.cells #[.bool b1, .slice a1 k1 c1, .bool d1, .slice e1 l1 m1] 26)
  have y := Bk.new w #[.bool b1, .slice a1 k1 c1, .bool d1, .slice e1 l1 m1] 26
  obtain ⟨y0, y1, y2, y3⟩ := y.cells4
  replace x10 := (al.cell (p := ⟨B, 0, none⟩) hBl).trans x10
  replace x11 := (al.cell (p := ⟨B, 1, none⟩) hBl).trans x11
  replace x12 := (al.cell (p := ⟨B, 2, none⟩) hBl).trans x12
  replace x13 := (al.cell (p := ⟨B, 3, none⟩) hBl).trans x13
  replace x20 := (al.cell (p := ⟨B, 4, none⟩) hBl).trans x20
  replace x21 := (al.cell (p := ⟨B, 5, none⟩) hBl).trans x21
  replace x22 := (al.cell (p := ⟨B, 6, none⟩) hBl).trans x22
  replace x23 := (al.cell (p := ⟨B, 7, none⟩) hBl).trans x23
  replace hBl := lt_of_cell x10
  replace hB := hB.trans (al.mono hB.size)
  clear al
  refine (HS1.out _ _ y0 y1 y2 y3).mono ?_
  rintro e t1 ⟨rfl, hb⟩
  clear y y0 y1 y2 y3
  replace x10 := (hb.cell (p := ⟨B, 0, none⟩) hBl).trans x10
  replace x11 := (hb.cell (p := ⟨B, 1, none⟩) hBl).trans x11
  replace x12 := (hb.cell (p := ⟨B, 2, none⟩) hBl).trans x12
  replace x13 := (hb.cell (p := ⟨B, 3, none⟩) hBl).trans x13
  replace x20 := (hb.cell (p := ⟨B, 4, none⟩) hBl).trans x20
  replace x21 := (hb.cell (p := ⟨B, 5, none⟩) hBl).trans x21
  replace x22 := (hb.cell (p := ⟨B, 6, none⟩) hBl).trans x22
  replace x23 := (hb.cell (p := ⟨B, 7, none⟩) hBl).trans x23
  replace hBl := lt_of_cell x10
  replace hB := hB.trans (hb.mono hB.size)
  clear hb
  cases s1 with
  | false =>
    go_wp2
    go_ret
    exact ⟨by simp, hB⟩
  | true =>
    go_wp2_with fail
    refine (HV1.out _ hB).mono ?_
    rintro e u1 ⟨rfl, hb⟩
    replace x10 := (hb.cell (p := ⟨B, 0, none⟩) hBl).trans x10
    replace x11 := (hb.cell (p := ⟨B, 1, none⟩) hBl).trans x11
    replace x12 := (hb.cell (p := ⟨B, 2, none⟩) hBl).trans x12
    replace x13 := (hb.cell (p := ⟨B, 3, none⟩) hBl).trans x13
    replace x20 := (hb.cell (p := ⟨B, 4, none⟩) hBl).trans x20
    replace x21 := (hb.cell (p := ⟨B, 5, none⟩) hBl).trans x21
    replace x22 := (hb.cell (p := ⟨B, 6, none⟩) hBl).trans x22
    replace x23 := (hb.cell (p := ⟨B, 7, none⟩) hBl).trans x23
    replace hBl := lt_of_cell x10
    replace hB := hB.trans (hb.mono hB.size)
    clear hb
    cases v1 with
    | false =>
      go_wp2
      go_ret
      exact ⟨by simp, hB⟩
    | true =>
      go_wp2_with fail
      rw [rounds_succ]
      go_wp2_with fail
      have al := (Below.refl u1.heap.size u1).alloc (Nat.le_refl _) (.cells #[.bool b2, .slice a2 k2 c2, .bool d2, .slice e2 l2 m2] 26)
      have y := Bk.new u1 #[.bool b2, .slice a2 k2 c2, .bool d2, .slice e2 l2 m2] 26
      obtain ⟨y0, y1, y2, y3⟩ := y.cells4
      replace x10 := (al.cell (p := ⟨B, 0, none⟩) hBl).trans x10
      replace x11 := (al.cell (p := ⟨B, 1, none⟩) hBl).trans x11
      replace x12 := (al.cell (p := ⟨B, 2, none⟩) hBl).trans x12
      replace x13 := (al.cell (p := ⟨B, 3, none⟩) hBl).trans x13
      replace x20 := (al.cell (p := ⟨B, 4, none⟩) hBl).trans x20
      replace x21 := (al.cell (p := ⟨B, 5, none⟩) hBl).trans x21
      replace x22 := (al.cell (p := ⟨B, 6, none⟩) hBl).trans x22
      replace x23 := (al.cell (p := ⟨B, 7, none⟩) hBl).trans x23
      replace hBl := lt_of_cell x10
      replace hB := hB.trans (al.mono hB.size)
      clear al
      refine (HS2.out _ _ y0 y1 y2 y3).mono ?_
      rintro e t2 ⟨rfl, hb⟩
      clear y y0 y1 y2 y3
      replace x10 := (hb.cell (p := ⟨B, 0, none⟩) hBl).trans x10
      replace x11 := (hb.cell (p := ⟨B, 1, none⟩) hBl).trans x11
      replace x12 := (hb.cell (p := ⟨B, 2, none⟩) hBl).trans x12
      replace x13 := (hb.cell (p := ⟨B, 3, none⟩) hBl).trans x13
      replace x20 := (hb.cell (p := ⟨B, 4, none⟩) hBl).trans x20
      replace x21 := (hb.cell (p := ⟨B, 5, none⟩) hBl).trans x21
      replace x22 := (hb.cell (p := ⟨B, 6, none⟩) hBl).trans x22
      replace x23 := (hb.cell (p := ⟨B, 7, none⟩) hBl).trans x23
      replace hBl := lt_of_cell x10
      replace hB := hB.trans (hb.mono hB.size)
      clear hb
      cases s2 with
      | false =>
        go_wp2
        go_ret
        exact ⟨by simp, hB⟩
      | true =>
        go_wp2_with fail
        refine (HV2.out _ hB).mono ?_
        rintro e u2 ⟨rfl, hb⟩
        replace x10 := (hb.cell (p := ⟨B, 0, none⟩) hBl).trans x10
        replace x11 := (hb.cell (p := ⟨B, 1, none⟩) hBl).trans x11
        replace x12 := (hb.cell (p := ⟨B, 2, none⟩) hBl).trans x12
        replace x13 := (hb.cell (p := ⟨B, 3, none⟩) hBl).trans x13
        replace x20 := (hb.cell (p := ⟨B, 4, none⟩) hBl).trans x20
        replace x21 := (hb.cell (p := ⟨B, 5, none⟩) hBl).trans x21
        replace x22 := (hb.cell (p := ⟨B, 6, none⟩) hBl).trans x22
        replace x23 := (hb.cell (p := ⟨B, 7, none⟩) hBl).trans x23
        replace hBl := lt_of_cell x10
        replace hB := hB.trans (hb.mono hB.size)
        clear hb
        cases v2 with
        | false =>
          go_wp2
          go_ret
          exact ⟨by simp, hB⟩
        | true =>
          go_wp2_with fail
          rw [rounds_succ]
          go_wp2
          go_ret
          exact ⟨by simp, hB⟩
theorem usable2_fra (B : Nat) (p : Rat) (q : Rat) (b1 : Bool) (a1 : Option Addr) (k1 c1 : Nat) (d1 : Bool) (e1 : Option Addr) (l1 m1 : Nat) (b2 : Bool) (a2 : Option Addr) (k2 c2 : Nat) (d2 : Bool) (e2 : Option Addr) (l2 m2 : Nat) (w : World) (x10 : w.cell? ⟨B, 0, none⟩ = some (.bool b1)) (x11 : w.cell? ⟨B, 1, none⟩ = some (.slice a1 k1 c1)) (x12 : w.cell? ⟨B, 2, none⟩ = some (.bool d1)) (x13 : w.cell? ⟨B, 3, none⟩ = some (.slice e1 l1 m1)) (x20 : w.cell? ⟨B, 4, none⟩ = some (.bool b2)) (x21 : w.cell? ⟨B, 5, none⟩ = some (.slice a2 k2 c2)) (x22 : w.cell? ⟨B, 6, none⟩ = some (.bool d2)) (x23 : w.cell? ⟨B, 7, none⟩ = some (.slice e2 l2 m2)) (h1 : Fra w (.agg #[.bool b1, .slice a1 k1 c1, .bool d1, .slice e1 l1 m1]) p) (h2 : Fra w (.agg #[.bool b2, .slice a2 k2 c2, .bool d2, .slice e2 l2 m2]) q) (z1 : Fz 40 40 p) (z2 : Fz 40 40 q) :
    Calls Tryz.prog 42 #[.slice (some ⟨B, 0, none⟩) 2 2] w fun e w' => e = .returned (.bool true) ∧ Below w.heap.size w w' := by
  have hu := usable2_any B b1 a1 k1 c1 d1 e1 l1 m1 b2 a2 k2 c2 d2 e2 l2 m2 true true w x10 x11 x12 x13 x20 x21 x22 x23 (fun W hW => frValid_ok _ p (z1.mono (by decide) (by decide)) W (h1.below hW (Nat.le_refl _))) (fun W hW => frValid_ok _ q (z2.mono (by decide) (by decide)) W (h2.below hW (Nat.le_refl _)))
  have len : ∀ {q : Rat} {b a k c d e l m}, Fra w (.agg #[.bool b, .slice a k c, .bool d, .slice e l m]) q → Fz 40 40 q → (decide (k ≤ 40) && decide (l ≤ 40)) = true := fun {q} {b a k c d e l m} h g => by
    obtain ⟨-, -, n1, n2⟩ := fra_nums h
    obtain ⟨g1, g2⟩ := g
    unfold Sz at g1 g2
    rw [(num_len n1).1, (num_len n2).1, decide_eq_true g1, decide_eq_true g2]; rfl
  simp only [len h1 z1, len h2 z2, Bool.and_true] at hu
  exact hu
end Go.Proofs.YthlclegajldphaaGreat
namespace Go.Proofs.YthlclegajldphaaGreat
open Go.RowKit Wh
theorem mul_npow (a b : Rat) (n : Nat) : (a * b) ^ n = a ^ n * b ^ n := Lean.Grind.CommSemiring.mul_pow a b n
theorem inv_mul' {x y : Rat} (hx : x ≠ 0) (hy : y ≠ 0) : (x * y)⁻¹ = x⁻¹ * y⁻¹ := by
  apply Rat.inv_eq_of_mul_eq_one
  have h1 := Rat.inv_mul_cancel x hx
  have h2 := Rat.inv_mul_cancel y hy
  grind
theorem npow_ne {a : Rat} (h : a ≠ 0) (n : Nat) : a ^ n ≠ 0 := by
  induction n with
  | zero => rw [Rat.pow_zero]; decide
  | succ n ih => rw [Rat.pow_succ]; exact fun e => by grind
theorem inv_npow {a : Rat} (h : a ≠ 0) (n : Nat) : (a ^ n)⁻¹ = a⁻¹ ^ n := by
  induction n with
  | zero => rw [Rat.pow_zero, Rat.pow_zero]; exact Rat.inv_eq_of_mul_eq_one (Rat.mul_one 1)
  | succ n ih => rw [Rat.pow_succ, Rat.pow_succ, inv_mul' (npow_ne h n) h, ih]
theorem mul_zpow {a b : Rat} (ha : a ≠ 0) (hb : b ≠ 0) (m : Int) : a ^ m * b ^ m = (a * b) ^ m := by
  by_cases h : 0 ≤ m
  · obtain ⟨k, rfl⟩ := Int.eq_ofNat_of_zero_le h
    rw [Rat.zpow_natCast, Rat.zpow_natCast, Rat.zpow_natCast, mul_npow]
  · obtain ⟨k, rfl⟩ : ∃ k : Nat, m = -(k : Int) := ⟨m.natAbs, by omega⟩
    rw [Rat.zpow_neg, Rat.zpow_neg, Rat.zpow_neg, Rat.zpow_natCast, Rat.zpow_natCast, Rat.zpow_natCast, mul_npow, inv_mul' (npow_ne ha k) (npow_ne hb k)]
theorem zpow_back {a : Rat} (ha : a ≠ 0) (m : Int) : a ^ m * a ^ (-m) = 1 := by
  rw [← Rat.zpow_add ha, Int.add_right_neg, Rat.zpow_zero]
theorem Fz.npow {k : Nat} {a : Rat} (h : Fz k k a) (n : Nat) : Fz (k * n + 1) (k * n + 1) (a ^ n) := by
  induction n with
  | zero => rw [Rat.pow_zero, Nat.mul_zero]; exact Fz.one
  | succ n ih =>
    rw [Rat.pow_succ]
    have := ih.mul h
    exact this.mono (by rw [Nat.mul_succ]; omega) (by rw [Nat.mul_succ]; omega)
theorem Fz.inv {k : Nat} {a : Rat} (h : Fz k k a) (h0 : a ≠ 0) : Fz (k + 1) (k + 1) a⁻¹ := by
  have := Fz.div Fz.one h h0
  rw [Rat.div_def, Rat.one_mul] at this
  exact this.mono (by omega) (by omega)
theorem Fz.zpow {k j : Nat} {a : Rat} (h : Fz k k a) (h0 : a ≠ 0) (m : Int) (hm : m.natAbs ≤ j) (hk : (k + 1) * j + 1 ≤ 256) : Fz 256 256 (a ^ m) := by
  by_cases h1 : 0 ≤ m
  · obtain ⟨n, rfl⟩ := Int.eq_ofNat_of_zero_le h1
    rw [Rat.zpow_natCast]
    have hn : k * n ≤ (k + 1) * j := Nat.mul_le_mul (Nat.le_succ k) (by omega)
    exact (h.npow n).mono (by omega) (by omega)
  · obtain ⟨n, rfl⟩ : ∃ n : Nat, m = -(n : Int) := ⟨m.natAbs, by omega⟩
    have hn : (k + 1) * n ≤ (k + 1) * j := Nat.mul_le_mul (Nat.le_refl _) (by omega)
    rw [Rat.zpow_neg, Rat.zpow_natCast, inv_npow h0]
    exact ((h.inv h0).npow n).mono (by omega) (by omega)
theorem zero_zpow {m : Int} (h : 0 ≤ m) : Fz 256 256 ((0 : Rat) ^ m) := by
  obtain ⟨n, rfl⟩ := Int.eq_ofNat_of_zero_le h
  rw [Rat.zpow_natCast]
  cases n with
  | zero => rw [Rat.pow_zero]; exact Fz.one.mono (by decide) (by decide)
  | succ n => rw [Rat.pow_succ, Rat.mul_zero]; exact Fz.zero.mono (by decide) (by decide)
theorem rem6 (m : Int) : -5 ≤ m.tmod 6 ∧ m.tmod 6 ≤ 5 := by
  have h1 := Int.tmod_lt_of_pos m (show (0 : Int) < 6 by decide)
  have h2 := Int.lt_tmod_of_pos m (show (0 : Int) < 6 by decide)
  omega
theorem short2_fra (M B : Nat) (p q : Rat) (b1 : Bool) (a1 : Option Addr) (k1 c1 : Nat) (d1 : Bool) (e1 : Option Addr) (l1 m1 : Nat) (b2 : Bool) (a2 : Option Addr) (k2 c2 : Nat) (d2 : Bool) (e2 : Option Addr) (l2 m2 : Nat) (w : World)
    (x0 : w.cell? ⟨B, 0, none⟩ = some (.bool b1)) (x1 : w.cell? ⟨B, 1, none⟩ = some (.slice a1 k1 c1)) (x2 : w.cell? ⟨B, 2, none⟩ = some (.bool d1)) (x3 : w.cell? ⟨B, 3, none⟩ = some (.slice e1 l1 m1))
    (y0 : w.cell? ⟨B, 4, none⟩ = some (.bool b2)) (y1 : w.cell? ⟨B, 5, none⟩ = some (.slice a2 k2 c2)) (y2 : w.cell? ⟨B, 6, none⟩ = some (.bool d2)) (y3 : w.cell? ⟨B, 7, none⟩ = some (.slice e2 l2 m2))
    (h1 : Fra w (.agg #[.bool b1, .slice a1 k1 c1, .bool d1, .slice e1 l1 m1]) p) (h2 : Fra w (.agg #[.bool b2, .slice a2 k2 c2, .bool d2, .slice e2 l2 m2]) q) (z1 : Fz M M p) (z2 : Fz M M q) :
    Calls Tryz.prog 15 #[.int .i64 (M : Int), .slice (some ⟨B, 0, none⟩) 2 2] w fun e w' => e = .returned (.bool true) ∧ Below w.heap.size w w' := by
  have hu := short2_any M B b1 a1 k1 c1 d1 e1 l1 m1 b2 a2 k2 c2 d2 e2 l2 m2 w x0 x1 x2 x3 y0 y1 y2 y3
  have len : ∀ {q : Rat} {b a k c d e l m}, Fra w (.agg #[.bool b, .slice a k c, .bool d, .slice e l m]) q → Fz M M q → (decide (k ≤ M) && decide (l ≤ M)) = true := fun {q} {b a k c d e l m} h g => by
    obtain ⟨-, -, n1, n2⟩ := fra_nums h
    obtain ⟨g1, g2⟩ := g
    unfold Sz at g1 g2
    rw [(num_len n1).1, (num_len n2).1, decide_eq_true g1, decide_eq_true g2]; rfl
  simp only [len h1 z1, len h2 z2, Bool.and_true] at hu
  exact hu
end Go.Proofs.YthlclegajldphaaGreat
