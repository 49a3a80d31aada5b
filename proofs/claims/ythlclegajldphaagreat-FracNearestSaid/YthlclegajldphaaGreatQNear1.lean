/- A part of the proofs about fractions. -/
import Derived.Test.YthlclegajldphaaGreatQz1
import Derived.Test.YthlclegajldphaaGreatQz2
import Derived.Test.YthlclegajldphaaGreatQz3
import Derived.Test.YthlclegajldphaaGreatQz4
import Derived.Test.YthlclegajldphaaGreatQz5
import Derived.Test.YthlclegajldphaaGreatQz6
import Derived.Test.YthlclegajldphaaGreatQz7
import Derived.Test.YthlclegajldphaaGreatQz8
import Derived.Test.YthlclegajldphaaGreatQz9
import Derived.Test.YthlclegajldphaaGreatQz10
import Derived.Test.YthlclegajldphaaGreatQz11
import Derived.Test.YthlclegajldphaaGreatQz12
import Derived.Test.YthlclegajldphaaGreatQz13
import Derived.Test.YthlclegajldphaaGreatQz14
import Derived.Test.YthlclegajldphaaGreatQz15
import Derived.Test.YthlclegajldphaaGreatQz16
import Derived.Test.YthlclegajldphaaGreatQz17
import Derived.Test.YthlclegajldphaaGreatQz18
import Derived.Test.YthlclegajldphaaGreatQz19
import Derived.Test.YthlclegajldphaaGreatQz20
import Derived.Test.YthlclegajldphaaGreatQz21
import Derived.Test.YthlclegajldphaaGreatQz22
import Derived.Test.YthlclegajldphaaGreatQz23
import Derived.Test.YthlclegajldphaaGreatQz24
import Derived.Test.YthlclegajldphaaGreatQz25
import Derived.Test.YthlclegajldphaaGreatQz26
import Derived.Test.YthlclegajldphaaGreatQz27
import Derived.Test.YthlclegajldphaaGreatQz28
import Derived.Test.YthlclegajldphaaGreatRows
namespace Go.Proofs.YthlclegajldphaaGreat
open Wh
theorem rnd_eq (q u : Rat) (m : Nat) : rnd q u m = (rfac (decide (q.num < 0)) (q.num * u.den) (q.den * u.num) m : Rat) * u := by
  unfold rnd
  conv => rhs; rw [Fq.mul_eq, Rat.num_intCast, Rat.den_intCast]
  simp
end Go.Proofs.YthlclegajldphaaGreat
namespace Go.Proofs.YthlclegajldphaaGreat
open Go.RowKit Wh
set_option maxRecDepth 100000 in
set_option maxHeartbeats 4000000 in
theorem usable2_any (B : Nat) (b1 : Bool) (a1 : Option Addr) (k1 c1 : Nat) (d1 : Bool) (e1 : Option Addr) (l1 m1 : Nat) (b2 : Bool) (a2 : Option Addr) (k2 c2 : Nat) (d2 : Bool) (e2 : Option Addr) (l2 m2 : Nat) (v1 v2 : Bool) (w : World) (x10 : w.cell? ⟨B, 0, none⟩ = some (.bool b1)) (x11 : w.cell? ⟨B, 1, none⟩ = some (.slice a1 k1 c1)) (x12 : w.cell? ⟨B, 2, none⟩ = some (.bool d1)) (x13 : w.cell? ⟨B, 3, none⟩ = some (.slice e1 l1 m1)) (x20 : w.cell? ⟨B, 4, none⟩ = some (.bool b2)) (x21 : w.cell? ⟨B, 5, none⟩ = some (.slice a2 k2 c2)) (x22 : w.cell? ⟨B, 6, none⟩ = some (.bool d2)) (x23 : w.cell? ⟨B, 7, none⟩ = some (.slice e2 l2 m2)) (hv1 : ∀ W, Below w.heap.size w W → Calls Tryz.prog 51 #[.agg #[.bool b1, .slice a1 k1 c1, .bool d1, .slice e1 l1 m1]] W fun e w' => e = .returned (.bool v1) ∧ Below W.heap.size W w') (hv2 : ∀ W, Below w.heap.size w W → Calls Tryz.prog 51 #[.agg #[.bool b2, .slice a2 k2 c2, .bool d2, .slice e2 l2 m2]] W fun e w' => e = .returned (.bool v2) ∧ Below W.heap.size W w') :
    Calls Tryz.prog 42 #[.slice (some ⟨B, 0, none⟩) 2 2] w fun e w' => e = .returned (.bool (((decide (k1 ≤ 40) && decide (l1 ≤ 40)) && v1) && ((decide (k2 ≤ 40) && decide (l2 ≤ 40)) && v2))) ∧ Below w.heap.size w w' := by
  have hBl := lt_of_cell x10
  have hB := Below.refl w.heap.size w
  have hs1 := fun B W x0 x1 x2 x3 => short1_any 40 B b1 a1 k1 c1 d1 e1 l1 m1 W x0 x1 x2 x3
  obtain ⟨s1, es1⟩ : ∃ s, s = (decide (k1 ≤ 40) && decide (l1 ≤ 40)) := ⟨_, rfl⟩
  rw [← es1] at hs1 ⊢
  have HS1 := Lib.hid hs1
  have HV1 := Lib.hid hv1
  clear hs1 es1 hv1
  have hs2 := fun B W x0 x1 x2 x3 => short1_any 40 B b2 a2 k2 c2 d2 e2 l2 m2 W x0 x1 x2 x3
  obtain ⟨s2, es2⟩ : ∃ s, s = (decide (k2 ≤ 40) && decide (l2 ≤ 40)) := ⟨_, rfl⟩
  rw [← es2] at hs2 ⊢
  have HS2 := Lib.hid hs2
  have HV2 := Lib.hid hv2
  clear hs2 es2 hv2
  go_enter Tryz.func42, Tryz.ntmps42
  go_wp2_with fail
  refine wp_loop_rounds 3 ?_
  rw [rounds_succ]
  go_wp2_with fail
  have al := (Below.refl w.heap.size w).alloc (Nat.le_refl _) (.cells #[.bool b1, .slice a1 k1 c1, .bool d1, .slice e1 l1 m1] 26)
  have y := Bk.new w #[.bool b1, .slice a1 k1 c1, .bool d1, .slice e1 l1 m1] 26
  obtain ⟨y0, y1, y2, y3⟩ := y.cells4
  replace x10 := (al.cell (p := ⟨B, 0, none⟩) hBl).trans x10
  replace x11 := (al.cell (p := ⟨B, 1, none⟩) hBl).trans x11
  replace x12 := (al.cell (p := ⟨B, 2, none⟩) hBl).trans x12
  replace x13 := (al.cell (p := ⟨B, 3, none⟩) hBl).trans x13
  replace x20 := (al.cell (p := ⟨B, 4, none⟩) hBl).trans x20
  replace x21 := (al.cell (p := ⟨B, 5, none⟩) hBl).trans x21
  replace x22 := (al.cell (p := ⟨B, 6, none⟩) hBl).trans x22
  replace x23 := (al.cell (p := ⟨B, 7, none⟩) hBl).trans x23
  replace hBl := lt_of_cell x10
  replace hB := hB.trans (al.mono hB.size)
  clear al
  refine (HS1.out _ _ y0 y1 y2 y3).mono ?_
  rintro e t1 ⟨rfl, hb⟩
  clear y y0 y1 y2 y3
  replace x10 := (hb.cell (p := ⟨B, 0, none⟩) hBl).trans x10
  replace x11 := (hb.cell (p := ⟨B, 1, none⟩) hBl).trans x11
  replace x12 := (hb.cell (p := ⟨B, 2, none⟩) hBl).trans x12
  replace x13 := (hb.cell (p := ⟨B, 3, none⟩) hBl).trans x13
  replace x20 := (hb.cell (p := ⟨B, 4, none⟩) hBl).trans x20
  replace x21 := (hb.cell (p := ⟨B, 5, none⟩) hBl).trans x21
  replace x22 := (hb.cell (p := ⟨B, 6, none⟩) hBl).trans x22
  replace x23 := (hb.cell (p := ⟨B, 7, none⟩) hBl).trans x23
  replace hBl := lt_of_cell x10
  replace hB := hB.trans (hb.mono hB.size)
  clear hb
  cases s1 with
  | false =>
    go_wp2
    go_ret
    exact ⟨by simp, hB⟩
  | true =>
    go_wp2_with fail
    refine (HV1.out _ hB).mono ?_
    rintro e u1 ⟨rfl, hb⟩
    replace x10 := (hb.cell (p := ⟨B, 0, none⟩) hBl).trans x10
    replace x11 := (hb.cell (p := ⟨B, 1, none⟩) hBl).trans x11
    replace x12 := (hb.cell (p := ⟨B, 2, none⟩) hBl).trans x12
    replace x13 := (hb.cell (p := ⟨B, 3, none⟩) hBl).trans x13
    replace x20 := (hb.cell (p := ⟨B, 4, none⟩) hBl).trans x20
    replace x21 := (hb.cell (p := ⟨B, 5, none⟩) hBl).trans x21
    replace x22 := (hb.cell (p := ⟨B, 6, none⟩) hBl).trans x22
    replace x23 := (hb.cell (p := ⟨B, 7, none⟩) hBl).trans x23
    replace hBl := lt_of_cell x10
    replace hB := hB.trans (hb.mono hB.size)
    clear hb
    cases v1 with
    | false =>
      go_wp2
      go_ret
      exact ⟨by simp, hB⟩
    | true =>
      go_wp2_with fail
      rw [rounds_succ]
      go_wp2_with fail
      have al := (Below.refl u1.heap.size u1).alloc (Nat.le_refl _) (.cells #[.bool b2, .slice a2 k2 c2, .bool d2, .slice e2 l2 m2] 26)
      have y := Bk.new u1 #[.bool b2, .slice a2 k2 c2, .bool d2, .slice e2 l2 m2] 26
      obtain ⟨y0, y1, y2, y3⟩ := y.cells4
      replace x10 := (al.cell (p := ⟨B, 0, none⟩) hBl).trans x10
      replace x11 := (al.cell (p := ⟨B, 1, none⟩) hBl).trans x11
      replace x12 := (al.cell (p := ⟨B, 2, none⟩) hBl).trans x12
      replace x13 := (al.cell (p := ⟨B, 3, none⟩) hBl).trans x13
      replace x20 := (al.cell (p := ⟨B, 4, none⟩) hBl).trans x20
      replace x21 := (al.cell (p := ⟨B, 5, none⟩) hBl).trans x21
      replace x22 := (al.cell (p := ⟨B, 6, none⟩) hBl).trans x22
      replace x23 := (al.cell (p := ⟨B, 7, none⟩) hBl).trans x23
      replace hBl := lt_of_cell x10
      replace hB := hB.trans (al.mono hB.size)
      clear al
      refine (HS2.out _ _ y0 y1 y2 y3).mono ?_
      rintro e t2 ⟨rfl, hb⟩
      clear y y0 y1 y2 y3
      replace x10 := (hb.cell (p := ⟨B, 0, none⟩) hBl).trans x10
      replace x11 := (hb.cell (p := ⟨B, 1, none⟩) hBl).trans x11
      replace x12 := (hb.cell (p := ⟨B, 2, none⟩) hBl).trans x12
      replace x13 := (hb.cell (p := ⟨B, 3, none⟩) hBl).trans x13
      replace x20 := (hb.cell (p := ⟨B, 4, none⟩) hBl).trans x20
      replace x21 := (hb.cell (p := ⟨B, 5, none⟩) hBl).trans x21
      replace x22 := (hb.cell (p := ⟨B, 6, none⟩) hBl).trans x22
      replace x23 := (hb.cell (p := ⟨B, 7, none⟩) hBl).trans x23
      replace hBl := lt_of_cell x10
      replace hB := hB.trans (hb.mono hB.size)
      clear hb
      cases s2 with
      | false =>
        go_wp2
        go_ret
        exact ⟨by simp, hB⟩
      | true =>
        go_wp2_with fail
        refine (HV2.out _ hB).mono ?_
        rintro e u2 ⟨rfl, hb⟩
        replace x10 := (hb.cell (p := ⟨B, 0, none⟩) hBl).trans x10
        replace x11 := (hb.cell (p := ⟨B, 1, none⟩) hBl).trans x11
        replace x12 := (hb.cell (p := ⟨B, 2, none⟩) hBl).trans x12
        replace x13 := (hb.cell (p := ⟨B, 3, none⟩) hBl).trans x13
        replace x20 := (hb.cell (p := ⟨B, 4, none⟩) hBl).trans x20
        replace x21 := (hb.cell (p := ⟨B, 5, none⟩) hBl).trans x21
        replace x22 := (hb.cell (p := ⟨B, 6, none⟩) hBl).trans x22
        replace x23 := (hb.cell (p := ⟨B, 7, none⟩) hBl).trans x23
        replace hBl := lt_of_cell x10
        replace hB := hB.trans (hb.mono hB.size)
        clear hb
        cases v2 with
        | false =>
          go_wp2
          go_ret
          exact ⟨by simp, hB⟩
        | true =>
          go_wp2_with fail
          rw [rounds_succ]
          go_wp2
          go_ret
          exact ⟨by simp, hB⟩
theorem usable2_fra (B : Nat) (p : Rat) (q : Rat) (b1 : Bool) (a1 : Option Addr) (k1 c1 : Nat) (d1 : Bool) (e1 : Option Addr) (l1 m1 : Nat) (b2 : Bool) (a2 : Option Addr) (k2 c2 : Nat) (d2 : Bool) (e2 : Option Addr) (l2 m2 : Nat) (w : World) (x10 : w.cell? ⟨B, 0, none⟩ = some (.bool b1)) (x11 : w.cell? ⟨B, 1, none⟩ = some (.slice a1 k1 c1)) (x12 : w.cell? ⟨B, 2, none⟩ = some (.bool d1)) (x13 : w.cell? ⟨B, 3, none⟩ = some (.slice e1 l1 m1)) (x20 : w.cell? ⟨B, 4, none⟩ = some (.bool b2)) (x21 : w.cell? ⟨B, 5, none⟩ = some (.slice a2 k2 c2)) (x22 : w.cell? ⟨B, 6, none⟩ = some (.bool d2)) (x23 : w.cell? ⟨B, 7, none⟩ = some (.slice e2 l2 m2)) (h1 : Fra w (.agg #[.bool b1, .slice a1 k1 c1, .bool d1, .slice e1 l1 m1]) p) (h2 : Fra w (.agg #[.bool b2, .slice a2 k2 c2, .bool d2, .slice e2 l2 m2]) q) (z1 : Fz 40 40 p) (z2 : Fz 40 40 q) :
    Calls Tryz.prog 42 #[.slice (some ⟨B, 0, none⟩) 2 2] w fun e w' => e = .returned (.bool true) ∧ Below w.heap.size w w' := by
  have hu := usable2_any B b1 a1 k1 c1 d1 e1 l1 m1 b2 a2 k2 c2 d2 e2 l2 m2 true true w x10 x11 x12 x13 x20 x21 x22 x23 (fun W hW => frValid_ok _ p (z1.mono (by decide) (by decide)) W (h1.below hW (Nat.le_refl _))) (fun W hW => frValid_ok _ q (z2.mono (by decide) (by decide)) W (h2.below hW (Nat.le_refl _)))
  have len : ∀ {q : Rat} {b a k c d e l m}, Fra w (.agg #[.bool b, .slice a k c, .bool d, .slice e l m]) q → Fz 40 40 q → (decide (k ≤ 40) && decide (l ≤ 40)) = true := fun {q} {b a k c d e l m} h g => by
    obtain ⟨-, -, n1, n2⟩ := fra_nums h
    obtain ⟨g1, g2⟩ := g
    unfold Sz at g1 g2
    rw [(num_len n1).1, (num_len n2).1, decide_eq_true g1, decide_eq_true g2]; rfl
  simp only [len h1 z1, len h2 z2, Bool.and_true] at hu
  exact hu
end Go.Proofs.YthlclegajldphaaGreat
namespace Go.Proofs.YthlclegajldphaaGreat
open Go.RowKit Wh
theorem cmpR_scale {x y : Rat} {K : Int} {i j : Int} (hK : 0 < K) (hx : x * (K : Rat) = (i : Rat)) (hy : y * (K : Rat) = (j : Rat)) : cmpR x y = if i < j then -1 else if i = j then 0 else 1 := by
  have k0 : (0 : Rat) < (K : Rat) := Rat.intCast_pos.2 hK
  by_cases h : i < j
  · rw [if_pos h]
    refine cmpR_lt ?_
    have h1 : (i : Rat) < (j : Rat) := Rat.intCast_lt_intCast.2 h
    rcases cmpR_cases x y with g | g | g
    · exact g
    · exfalso; rw [g, hy] at hx; grind
    · exfalso
      have := Rat.mul_lt_mul_of_pos_right g k0
      grind
  · rw [if_neg h]
    by_cases h2 : i = j
    · rw [if_pos h2]
      refine cmpR_same ?_
      have h3 : x * (K : Rat) = y * (K : Rat) := by rw [hx, hy, h2]
      rcases cmpR_cases x y with g | g | g
      · exfalso; have := Rat.mul_lt_mul_of_pos_right g k0; grind
      · exact g
      · exfalso; have := Rat.mul_lt_mul_of_pos_right g k0; grind
    · rw [if_neg h2]
      refine cmpR_gt ?_
      have h1 : (j : Rat) < (i : Rat) := Rat.intCast_lt_intCast.2 (by omega)
      rcases cmpR_cases x y with g | g | g
      · exfalso; have := Rat.mul_lt_mul_of_pos_right g k0; grind
      · exfalso; rw [g, hy] at hx; grind
      · exact g
theorem rfac_spec (neg : Bool) (n D : Int) (m : Nat) (hD : 0 < D) :
    ∃ e : Int, rfac neg n D m * D - n = e ∧ -D < e ∧ e < D ∧ (5 ≤ m → -D ≤ 2 * e ∧ 2 * e ≤ D) ∧ (m = 1 → (neg = true → 0 ≤ e) ∧ (neg = false → e ≤ 0)) ∧ (m = 2 → (neg = true → e ≤ 0) ∧ (neg = false → 0 ≤ e)) ∧ (m = 3 → e ≤ 0) ∧ (m = 4 → 0 ≤ e) ∧
      (m = 5 → 2 * e = D ∨ 2 * e = -D → (neg = true → e < 0) ∧ (neg = false → 0 < e)) ∧ (6 ≤ m → 2 * e = D ∨ 2 * e = -D → rfac neg n D m % 2 = 0) ∧ (n = 0 → e = 0) := by
  have h := Int.emod_add_mul_ediv n D
  have h1 := Int.emod_nonneg n (show D ≠ 0 by omega)
  have h2 := Int.emod_lt_of_pos n hD
  obtain ⟨k, hk⟩ : ∃ k, k = n / D := ⟨_, rfl⟩
  obtain ⟨r, hr⟩ : ∃ r, r = n % D := ⟨_, rfl⟩
  have e1 : k * D = n - r := by rw [hk, hr]; grind
  have e2 : (k + 1) * D = n - r + D := by grind
  refine ⟨_, rfl, ?_⟩
  unfold rfac rup
  rw [← hk, ← hr]
  rw [← hr] at h1 h2
  by_cases r0 : r = 0
  · simp only [if_pos r0]
    rw [e1]
    refine ⟨by omega, by omega, fun _ => by omega, fun _ => by omega, fun _ => by omega, fun _ => by omega, fun _ => by omega, fun _ g => by omega, fun _ g => by omega, fun _ => by omega⟩
  · simp only [if_neg r0]
    obtain ⟨up, hup⟩ : ∃ up : Bool, up = (if m = 1 then neg else if m = 2 then !neg else if m = 3 then false else if m = 4 then true else if m = 5 then decide (D < r + r) || (decide (r + r = D) && !neg) else decide (D < r + r) || (decide (r + r = D) && decide (k % 2 = 1))) := ⟨_, rfl⟩
    have q1 : m = 1 → up = neg := fun e => by rw [hup, if_pos e]
    have q2 : m = 2 → up = !neg := fun e => by rw [hup, e]; rfl
    have q3 : m = 3 → up = false := fun e => by rw [hup, e]; rfl
    have q4 : m = 4 → up = true := fun e => by rw [hup, e]; rfl
    have q5 : m = 5 → up = (decide (D < r + r) || (decide (r + r = D) && !neg)) := fun e => by rw [hup, e]; rfl
    have q6 : 6 ≤ m → up = (decide (D < r + r) || (decide (r + r = D) && decide (k % 2 = 1))) := fun e => by rw [hup, if_neg (by omega), if_neg (by omega), if_neg (by omega), if_neg (by omega), if_neg (by omega)]
    rw [← hup]
    clear hup
    have hn : n ≠ 0 := fun e => r0 (by rw [hr, e]; exact Int.zero_emod _)
    cases up with
    | true =>
      rw [if_pos rfl, e2]
      refine ⟨by omega, by omega, fun hm => ?_, fun hm => ?_, fun hm => ?_, fun hm => ?_, fun hm => by omega, fun hm g => ?_, fun hm g => ?_, fun e => absurd e hn⟩
      · rcases Nat.lt_or_ge m 6 with h6 | h6
        · have := q5 (by omega); simp at this; omega
        · have := q6 h6; simp at this; omega
      · have := q1 hm; subst this; exact ⟨fun _ => by omega, fun e => by cases e⟩
      · have := q2 hm; cases neg <;> simp at this; exact ⟨fun e => (by cases e), fun _ => by omega⟩
      · have := q3 hm; cases this
      · have := q5 hm; cases neg <;> simp at this
        · exact ⟨fun e => by (cases e), fun _ => by omega⟩
        · exfalso; omega
      · have := q6 hm; simp at this; omega
    | false =>
      rw [if_neg (by simp), e1]
      refine ⟨by omega, by omega, fun hm => ?_, fun hm => ?_, fun hm => ?_, fun hm => by omega, fun hm => ?_, fun hm g => ?_, fun hm g => ?_, fun e => absurd e hn⟩
      · rcases Nat.lt_or_ge m 6 with h6 | h6
        · have := q5 (by omega); simp at this; omega
        · have := q6 h6; simp at this; omega
      · have := q1 hm; subst this; exact ⟨fun e => (by cases e), fun _ => by omega⟩
      · have := q2 hm; cases neg <;> simp at this; exact ⟨fun _ => by omega, fun e => by cases e⟩
      · have := q4 hm; cases this
      · have := q5 hm; cases neg <;> simp at this
        · exfalso; omega
        · exact ⟨fun _ => by omega, fun e => by cases e⟩
      · have := q6 hm; simp at this; omega
theorem mul_den (a : Rat) : a * ((a.den : Int) : Rat) = (a.num : Rat) := by
  have h : (a.num : Rat) / ((a.den : Int) : Rat) = a := by rw [← Rat.divInt_eq_div, Rat.num_divInt_den]
  have hd : ((a.den : Int) : Rat) ≠ 0 := fun e => by have := a.den_pos; have := Rat.intCast_eq_zero_iff.1 e; omega
  have h2 := Rat.div_mul_cancel (a := (a.num : Rat)) hd
  rw [h] at h2
  exact h2
theorem cmpR_zero_num (a : Rat) : cmpR a 0 = if a.num < 0 then -1 else if a.num = 0 then 0 else 1 := by
  have hd : (0 : Int) < a.den := by have := a.den_pos; omega
  have h1 : a * ((a.den : Int) : Rat) = (a.num : Rat) := by
    exact mul_den a
  have h2 : (0 : Rat) * ((a.den : Int) : Rat) = ((0 : Int) : Rat) := by simp
  exact cmpR_scale hd h1 h2
theorem near (a u : Rat) (hu : 0 < u.num) (m : Nat) :
    ∃ f e D K : Int, f = rfac (decide (a.num < 0)) (a.num * u.den) (a.den * u.num) m ∧ rnd a u m = (f : Rat) * u ∧ 0 < K ∧ 0 < D ∧ (rnd a u m - a) * (K : Rat) = (e : Rat) ∧ u * (K : Rat) = (D : Rat) ∧ -D < e ∧ e < D ∧ (5 ≤ m → -D ≤ 2 * e ∧ 2 * e ≤ D) ∧
      (m = 1 → (a.num < 0 → 0 ≤ e) ∧ (0 ≤ a.num → e ≤ 0)) ∧ (m = 2 → (a.num < 0 → e ≤ 0) ∧ (0 ≤ a.num → 0 ≤ e)) ∧ (m = 3 → e ≤ 0) ∧ (m = 4 → 0 ≤ e) ∧ (m = 5 → 2 * e = D ∨ 2 * e = -D → (a.num < 0 → e < 0) ∧ (0 ≤ a.num → 0 < e)) ∧ (6 ≤ m → 2 * e = D ∨ 2 * e = -D → f % 2 = 0) ∧ (a.num = 0 → e = 0) := by
  have ha : (0 : Int) < a.den := by have := a.den_pos; omega
  have hv : (0 : Int) < u.den := by have := u.den_pos; omega
  have hD : 0 < (a.den : Int) * u.num := Int.mul_pos ha hu
  obtain ⟨e, he, p1, p2, p3, p4, p5, p6, p7, p8, p9, p10⟩ := rfac_spec (decide (a.num < 0)) (a.num * u.den) (a.den * u.num) m hD
  have h1 : a * ((a.den : Int) : Rat) = (a.num : Rat) := mul_den a
  have h2 : u * ((u.den : Int) : Rat) = (u.num : Rat) := mul_den u
  have hu2 : u * (((a.den : Int) * (u.den : Int) : Int) : Rat) = (((a.den : Int) * u.num : Int) : Rat) := by
    rw [Rat.intCast_mul, Rat.intCast_mul, ← h2]; grind
  have ha2 : a * (((a.den : Int) * (u.den : Int) : Int) : Rat) = ((a.num * (u.den : Int) : Int) : Rat) := by
    rw [Rat.intCast_mul, Rat.intCast_mul, ← h1]; grind
  have hd : (rnd a u m - a) * (((a.den : Int) * (u.den : Int) : Int) : Rat) = (e : Rat) := by
    have h3 : ((rfac (decide (a.num < 0)) (a.num * u.den) (a.den * u.num) m * ((a.den : Int) * u.num) - a.num * u.den : Int) : Rat) = (rfac (decide (a.num < 0)) (a.num * u.den) (a.den * u.num) m : Rat) * (u * (((a.den : Int) * (u.den : Int) : Int) : Rat)) - a * (((a.den : Int) * (u.den : Int) : Int) : Rat) := by
      rw [hu2, ha2, ← Rat.intCast_mul, ← Rat.intCast_sub]
    rw [rnd_eq, ← he, h3]; grind
  refine ⟨_, e, _, _, rfl, rnd_eq a u m, Int.mul_pos ha hv, hD, hd, hu2, p1, p2, p3, fun h => ?_, fun h => ?_, p6, p7, fun h g => ?_, p9, fun h => p10 (by rw [h, Int.zero_mul])⟩
  · exact ⟨fun g => (p4 h).1 (decide_eq_true g), fun g => (p4 h).2 (decide_eq_false (by omega))⟩
  · exact ⟨fun g => (p5 h).1 (decide_eq_true g), fun g => (p5 h).2 (decide_eq_false (by omega))⟩
  · exact ⟨fun k => (p8 h g).1 (decide_eq_true k), fun k => (p8 h g).2 (decide_eq_false (by omega))⟩
theorem near_law (a u : Rat) (hu : 0 < u.num) (m : Nat) :
    ∃ f : Int, f = rfac (decide (a.num < 0)) (a.num * u.den) (a.den * u.num) m ∧ rnd a u m = (f : Rat) * u ∧ ∃ s t o : Int, cmpR (rnd a u m - a) 0 = s ∧ cmpR a 0 = t ∧ (s = -1 ∨ s = 0 ∨ s = 1) ∧ (t = -1 ∨ t = 0 ∨ t = 1) ∧ (o = -1 ∨ o = 0 ∨ o = 1) ∧
      (s < 0 → cmpR (0 - (rnd a u m - a)) u = -1 ∧ cmpR ((0 - (rnd a u m - a)) + (0 - (rnd a u m - a))) u = o) ∧ (¬ s < 0 → cmpR (rnd a u m - a) u = -1 ∧ cmpR ((rnd a u m - a) + (rnd a u m - a)) u = o) ∧ (5 ≤ m → ¬ 0 < o) ∧
      (m = 1 → s * t ≤ 0) ∧ (m = 2 → 0 ≤ s * t) ∧ (m = 3 → s ≤ 0) ∧ (m = 4 → 0 ≤ s) ∧ (m = 5 → o < 0 ∨ s = t) ∧ (6 ≤ m → o < 0 ∨ f % 2 = 0) := by
  obtain ⟨f, e, D, K, hf, hr, hK, hD, hd, hU, p1, p2, p3, p4, p5, p6, p7, p8, p9, p10⟩ := near a u hu m
  have z : (0 : Rat) * (K : Rat) = ((0 : Int) : Rat) := by simp
  have hs := cmpR_scale hK hd z
  have ht := cmpR_zero_num a
  have n1 : (0 - (rnd a u m - a)) * (K : Rat) = ((-e : Int) : Rat) := by rw [Rat.intCast_neg, ← hd]; grind
  have n2 : ((0 - (rnd a u m - a)) + (0 - (rnd a u m - a))) * (K : Rat) = ((-e + -e : Int) : Rat) := by rw [Rat.intCast_add, Rat.intCast_neg, ← hd]; grind
  have n3 : ((rnd a u m - a) + (rnd a u m - a)) * (K : Rat) = ((e + e : Int) : Rat) := by rw [Rat.intCast_add, ← hd]; grind
  have c1 := cmpR_scale hK n1 hU
  have c2 := cmpR_scale hK n2 hU
  have c3 := cmpR_scale hK n3 hU
  have c4 := cmpR_scale hK hd hU
  rw [hs, ht, c1, c2, c3, c4]
  refine ⟨f, hf, hr, ?_⟩
  rcases Int.lt_trichotomy e 0 with g | g | g
  · refine ⟨-1, _, if -e + -e < D then -1 else if -e + -e = D then 0 else 1, by rw [if_pos g], rfl, .inl rfl, by split <;> (try split) <;> simp, by split <;> (try split) <;> simp, fun _ => ⟨by rw [if_pos (by omega)], rfl⟩, fun h => absurd (by decide) h, fun h => ?_, fun h => ?_, fun h => ?_, fun h => by decide, fun h => absurd (p7 h) (by omega), fun h => ?_, fun h => ?_⟩
    · have := p3 h; split <;> (try split) <;> omega
    · have := p4 h; split <;> (try split) <;> omega
    · have := p5 h; split <;> (try split) <;> omega
    · have h5 := p3 (by omega); have := p8 h
      by_cases q : -e + -e < D
      · left; rw [if_pos q]; decide
      · right
        have q2 := this (.inr (by omega))
        by_cases w : a.num < 0
        · rw [if_pos w]
        · have := q2.2 (by omega); omega
    · have h5 := p3 (by omega); have := p9 h
      by_cases q : -e + -e < D
      · left; rw [if_pos q]; decide
      · right; exact this (.inr (by omega))
  · subst g
    refine ⟨0, _, if (0 : Int) + 0 < D then -1 else if (0 : Int) + 0 = D then 0 else 1, by simp, rfl, .inr (.inl rfl), by split <;> (try split) <;> simp, by split <;> (try split) <;> simp, fun h => absurd h (by decide), fun _ => ⟨by rw [if_pos (by omega)], rfl⟩, fun h => ?_, fun h => by simp, fun h => by simp, fun h => by decide, fun h => by decide, fun h => ?_, fun h => ?_⟩
    · rw [if_pos (by omega)]; decide
    · left; rw [if_pos (by omega)]; decide
    · left; rw [if_pos (by omega)]; decide
  · refine ⟨1, _, if e + e < D then -1 else if e + e = D then 0 else 1, by rw [if_neg (by omega), if_neg (by omega)], rfl, .inr (.inr rfl), by split <;> (try split) <;> simp, by split <;> (try split) <;> simp, fun h => absurd h (by decide), fun _ => ⟨by rw [if_pos (by omega)], rfl⟩, fun h => ?_, fun h => ?_, fun h => ?_, fun h => absurd (p6 h) (by omega), fun h => by decide, fun h => ?_, fun h => ?_⟩
    · have := p3 h; split <;> (try split) <;> omega
    · have := p4 h; split <;> (try split) <;> omega
    · have := p5 h; split <;> (try split) <;> omega
    · have h5 := p3 (by omega); have := p8 h
      by_cases q : e + e < D
      · left; rw [if_pos q]; decide
      · right
        have q2 := this (.inl (by omega))
        by_cases w : a.num < 0
        · have := q2.1 w; omega
        · rw [if_neg w, if_neg (fun k => by have := p10 k; omega)]
    · have h5 := p3 (by omega); have := p9 h
      by_cases q : e + e < D
      · left; rw [if_pos q]; decide
      · right; exact this (.inl (by omega))
end Go.Proofs.YthlclegajldphaaGreat
