/- 'FracEnds' returns true: powers of 2 and 1/2 about the greatest length, of 0, 1 and -1 to extreme exponents, and the least int, are what the document says. No condition. -/
import Derived.ProofKit
import Derived.WalkKit
import Derived.Test.YthlclegajldphaaGreatQz1
import Derived.Test.YthlclegajldphaaGreatQz2
import Derived.Test.YthlclegajldphaaGreatQz3
import Derived.Test.YthlclegajldphaaGreatQz4
import Derived.Test.YthlclegajldphaaGreatQz5
import Derived.Test.YthlclegajldphaaGreatQz6
import Derived.Test.YthlclegajldphaaGreatQz7
import Derived.Test.YthlclegajldphaaGreatQz8
import Derived.Test.YthlclegajldphaaGreatQz9
import Derived.Test.YthlclegajldphaaGreatQz10
import Derived.Test.YthlclegajldphaaGreatQz11
import Derived.Test.YthlclegajldphaaGreatQz12
import Derived.Test.YthlclegajldphaaGreatQz13
import Derived.Test.YthlclegajldphaaGreatQz14
import Derived.Test.YthlclegajldphaaGreatQz15
import Derived.Test.YthlclegajldphaaGreatQz16
import Derived.Test.YthlclegajldphaaGreatQz17
import Derived.Test.YthlclegajldphaaGreatQz18
import Derived.Test.YthlclegajldphaaGreatQz19
import Derived.Test.YthlclegajldphaaGreatQz20
import Derived.Test.YthlclegajldphaaGreatQz21
import Derived.Test.YthlclegajldphaaGreatQz22
import Derived.Test.YthlclegajldphaaGreatQz23
import Derived.Test.YthlclegajldphaaGreatQz24
import Derived.Test.YthlclegajldphaaGreatQz25
import Derived.Test.YthlclegajldphaaGreatQz26
import Derived.Test.YthlclegajldphaaGreatQz27
import Derived.Test.YthlclegajldphaaGreatQz28
import Derived.Test.YthlclegajldphaaGreatRows
namespace Go.Proofs.YthlclegajldphaaGreat
open Go.RowKit Wh
set_option maxRecDepth 100000 in
set_option maxHeartbeats 1000000 in
theorem frPow_zero (b : Bool) (a : Option Addr) (k c : Nat) (b' : Bool) (a' : Option Addr) (k' c' : Nat) (q : Rat) (hq : Fz 256 256 q) (m : Nat) (hm : 1 ≤ m) (hq0 : q = 0) (w : World) (h : Fra w (.agg #[.bool b, .slice a k c, .bool b', .slice a' k' c']) q) :
    Calls Tryz.prog 32 #[.agg #[.bool b, .slice a k c, .bool b', .slice a' k' c'], .int .i64 (-(m : Int))] w fun e w' => e = .returned (.tuple #[zeroF, .int .i64 20]) ∧ Below w.heap.size w w' := by
  have HV := Lib.hid (fun W (hW : Below w.heap.size w W) => valid_ok (.agg #[.bool b, .slice a k c, .bool b', .slice a' k' c']) q hq W (h.below hW (Nat.le_refl _)))
  obtain ⟨eb, eb', n1, n2⟩ := fra_nums h
  obtain ⟨h1, h2⟩ := hq
  have HZ := Lib.hid (fun W (hW : Below w.heap.size w W) => isZero_num _ q.num W (n1.below hW (Nat.le_refl _)))
  have HQ0 : decide (q.num = 0) = true := decide_eq_true ((Fq.num_zero q).2 hq0)
  rw [HQ0] at HZ
  clear HQ0 hq0
  clear h n1 n2 h1 h2 eb eb'
  have hB := Below.refl w.heap.size w
  obtain ⟨al, xa, hN⟩ := mk hB #[.bool b, .slice a k c, .bool b', .slice a' k' c'] 26
  replace hB := hN
  clear al hN
  try simp only [World.size_alloc] at xa
  obtain ⟨al, xr, hN⟩ := mk hB #[.bool false, .slice none 0 0, .bool false, .slice none 0 0] 26
  replace xa := xa.on al
  replace hB := hN
  clear al hN
  try simp only [World.size_alloc] at xr
  go_enter Tryz.func32, Tryz.ntmps32
  obtain ⟨al, xx, hN⟩ := mk hB #[.bool b, .slice a k c, .bool b', .slice a' k' c'] 85
  replace xa := xa.on al
  replace xr := xr.on al
  replace hB := hN
  clear al hN
  try simp only [World.size_alloc] at xx
  have pa := xa.all4
  have pr := xr.all4
  have px := xx.all4
  go_wp2_with fail
  clear pa pr px
  refine (HV.out _ hB).mono ?_
  rintro e w1 ⟨rfl, hb⟩
  replace xa := xa.on hb
  replace xr := xr.on hb
  replace xx := xx.on hb
  have hz1 := hb.size
  try simp at hz1
  replace hB := hB.trans (hb.mono hB.size)
  clear hb
  clear xa
  have pr := xr.all4
  have px := xx.all4
  go_wp2_with fail
  clear pr px
  have pr := xr.all4
  have px := xx.all4
  clear pr px
  refine (HZ.out _ hB).mono ?_
  rintro e w2 ⟨rfl, hb⟩
  replace xr := xr.on hb
  replace xx := xx.on hb
  have hz2 := hb.size
  try simp at hz2
  replace hB := hB.trans (hb.mono hB.size)
  clear hb
  have pr := xr.all4
  have px := xx.all4
  go_wp2_with fail
  clear pr px
  clear xx
  replace xr := xr.put4 (.bool false) (.slice none 0 0) (.bool false) (.slice none 0 0)
  replace hB := below4 hB (w.heap.size + 1) (by first | omega | (simp; omega) | simp) (.bool false) (.slice none 0 0) (.bool false) (.slice none 0 0)
  generalize ((((w2.setCell ⟨w.heap.size + 1, 0, none⟩ (.bool false)).setCell ⟨w.heap.size + 1, 1, none⟩ (.slice none 0 0)).setCell ⟨w.heap.size + 1, 2, none⟩ (.bool false)).setCell ⟨w.heap.size + 1, 3, none⟩ (.slice none 0 0)) = WF at *
  have pr := xr.all4
  exact bodyPost_ret (v := .tuple #[.agg #[.bool false, .slice none 0 0, .bool false, .slice none 0 0], .int .i64 20]) (by simp [results, Tryz.results32, go_sem, pr]) rfl ⟨rfl, hB⟩
end Go.Proofs.YthlclegajldphaaGreat
namespace Go.Proofs.YthlclegajldphaaGreat
open Go.RowKit Wh
theorem zpow_back {a : Rat} (ha : a ≠ 0) (m : Int) : a ^ m * a ^ (-m) = 1 := by
  rw [← Rat.zpow_add ha, Int.add_right_neg, Rat.zpow_zero]
end Go.Proofs.YthlclegajldphaaGreat
namespace Go.Proofs.YthlclegajldphaaGreat
open Go.RowKit Wh
theorem sz_pow2 : Sz 256 ((2 : Int) ^ 4095) := Sz.of_lt (by rw [Int.natAbs_pow]; decide +kernel)
theorem long_pow2 : ¬ Sz 256 ((2 : Int) ^ 4096) := fun h => by
  have := h.lt
  rw [Int.natAbs_pow] at this
  exact absurd this (by decide +kernel)
theorem sz_one (n : Nat) : Sz 256 ((1 : Int) ^ n) := by rw [Int.one_pow]; exact (Sz.small (by decide)).mono (by decide)
theorem num2 : (2 : Rat).num = 2 ∧ (((2 : Rat).den : Nat) : Int) = 1 := ⟨by decide +kernel, by decide +kernel⟩
theorem fz_top : Fz 256 256 ((2 : Rat) ^ (4095 : Int)) := by
  obtain ⟨h1, h2⟩ := pow_parts (q := 2) (n := 4095) (by decide)
  refine ⟨by rw [h1, num2.1]; exact sz_pow2, by rw [h2, num2.2]; exact sz_one _⟩
theorem fz_over : ¬ Fz 256 256 ((2 : Rat) ^ (4096 : Int)) := fun h => by
  have h1 := h.1
  rw [(pow_parts (q := 2) (n := 4096) (by decide)).1, num2.1] at h1
  exact long_pow2 h1
theorem fz_half : ¬ Fz 256 256 ((Rat.divInt 1 2) ^ (4096 : Int)) := fun h => by
  have h1 := h.2
  rw [(pow_parts (q := Rat.divInt 1 2) (n := 4096) (by decide)).2, show (((Rat.divInt 1 2).den : Nat) : Int) = 2 by decide +kernel] at h1
  exact long_pow2 h1
theorem fz_low : Fz 256 256 ((2 : Rat) ^ (-4095 : Int)) := by
  obtain ⟨h1, h2⟩ := npow_parts (q := 2) (n := -4095) (by decide +kernel) (by decide)
  refine ⟨by rw [h1, num2.1, num2.2]; exact sz_one _, by rw [h2, num2.1]; exact sz_pow2⟩
theorem fz_least : ¬ Fz 256 256 ((Rat.divInt (-2) 1) ^ (-9223372036854775808 : Int)) := fun h => by
  have h1 := h.2
  rw [(npow_parts (q := Rat.divInt (-2) 1) (n := -9223372036854775808) (by decide +kernel) (by decide)).2, show (((Rat.divInt (-2) 1).num.natAbs : Nat) : Int) = 2 by decide +kernel] at h1
  exact long_mono (m := 4096) (by decide) long_pow2 h1
theorem neg_even (k : Nat) : (Rat.divInt (-1) 1) ^ (-((2 * k : Nat) : Int)) = 1 := by
  rw [Rat.zpow_neg, Rat.zpow_natCast]
  have : (Rat.divInt (-1) 1) ^ (2 * k) = 1 := by
    induction k with
    | zero => rw [Nat.mul_zero, Rat.pow_zero]
    | succ k ih => rw [show 2 * (k + 1) = 2 * k + 1 + 1 by omega, Rat.pow_succ, Rat.pow_succ, ih]; decide +kernel
  rw [this]; decide +kernel
theorem neg_odd (k : Nat) : (Rat.divInt (-1) 1) ^ (((2 * k + 1 : Nat) : Int)) = Rat.divInt (-1) 1 := by
  rw [Rat.zpow_natCast]
  have : (Rat.divInt (-1) 1) ^ (2 * k) = 1 := by
    induction k with
    | zero => rw [Nat.mul_zero, Rat.pow_zero]
    | succ k ih => rw [show 2 * (k + 1) = 2 * k + 1 + 1 by omega, Rat.pow_succ, Rat.pow_succ, ih]; decide +kernel
  rw [Rat.pow_succ, this, Rat.one_mul]
theorem zero_succ (k : Nat) : (0 : Rat) ^ (((k + 1 : Nat) : Int)) = 0 := by rw [Rat.zpow_natCast, Rat.pow_succ, Rat.mul_zero]
theorem e_least : (Rat.divInt (-1) 1) ^ (-9223372036854775808 : Int) = 1 := neg_even 4611686018427387904
theorem e_most : (Rat.divInt (-1) 1) ^ (9223372036854775807 : Int) = Rat.divInt (-1) 1 := neg_odd 4611686018427387903
theorem e_zero : (0 : Rat) ^ (9223372036854775807 : Int) = 0 := zero_succ 9223372036854775806
theorem frPow_longlit (va : Value) (p : Rat) (n : Int) (hn1 : -9223372036854775808 ≤ n) (hn2 : n ≤ 9223372036854775807) (h0 : p ≠ 0 ∨ 0 ≤ n) (hp : Fz 256 256 p) (hf : ¬ Fz 256 256 (p ^ n)) (w : World) (h : Fra w va p) :
    Calls Tryz.prog 32 #[va, .int .i64 n] w fun e w' => e = .returned (.tuple #[.agg #[.bool false, .slice none 0 0, .bool false, .slice none 0 0], .int .i64 3]) ∧ Below w.heap.size w w' := by
  obtain ⟨b, a, k, c, b', a', k', c', rfl⟩ := h.opened
  refine (frPow_any b a k c b' a' k' c' p hp n hn1 hn2 h0 w h).mono ?_
  rintro e w' ⟨⟨v, o, rfl, -, h2⟩, hb⟩
  obtain ⟨rfl, rfl⟩ := h2 hf
  exact ⟨rfl, hb⟩
theorem frPow_err0 (va : Value) (w : World) (h : Fra w va 0) :
    Calls Tryz.prog 32 #[va, .int .i64 (-9223372036854775808)] w fun e w' => e = .returned (.tuple #[.agg #[.bool false, .slice none 0 0, .bool false, .slice none 0 0], .int .i64 20]) ∧ Below w.heap.size w w' := by
  obtain ⟨b, a, k, c, b', a', k', c', rfl⟩ := h.opened
  exact frPow_zero b a k c b' a' k' c' 0 (Fz.zero.mono (by decide) (by decide)) 9223372036854775808 (by decide) rfl w h
theorem frMul_lit (va vb : Value) (p q r : Rat) (hr : p * q = r) (hp : Fz 256 256 p) (hq : Fz 256 256 q) (hf : Fz 256 256 r) (w : World) (h : Fra w va p) (g : Fra w vb q) :
    Calls Tryz.prog 38 #[va, vb] w fun e w' => (∃ v, e = .returned (.tuple #[v, .int .i64 0]) ∧ Fra w' v r) ∧ Below w.heap.size w w' := by
  subst hr
  obtain ⟨b, a, k, c, b', a', k', c', rfl⟩ := h.opened
  obtain ⟨bx, ax, kx, cx, bx', ax', kx', cx', rfl⟩ := g.opened
  exact (frMul_ok p q b a k c b' a' k' c' bx ax kx cx bx' ax' kx' cx' hp hq hf w h g).mono fun _ _ ⟨⟨v, he, q⟩, hb⟩ => ⟨⟨v, he, q.fra⟩, hb⟩
theorem frInt_lit (va : Value) (q : Rat) (z : Int) (hz : q = (z : Rat)) (hs : Sz 256 z) (z1 : -9223372036854775808 ≤ z) (z2 : z ≤ 9223372036854775807) (w : World) (h : Fra w va q) :
    Calls Tryz.prog 40 #[va] w fun e w' => e = .returned (.tuple #[.int .i64 z, .int .i64 0]) ∧ Below w.heap.size w w' := by
  subst hz
  obtain ⟨b, a, k, c, b', a', k', c', rfl⟩ := h.opened
  have := frInt_ok b a k c b' a' k' c' (z : Rat) ((Fz.int hs).mono (by decide) (by decide)) (Rat.den_intCast z) (by rw [Rat.num_intCast]; exact z1) (by rw [Rat.num_intCast]; exact z2) w h
  rwa [Rat.num_intCast] at this
end Go.Proofs.YthlclegajldphaaGreat
namespace Go.Proofs.YthlclegajldphaaGreat
open Go.RowKit Wh
set_option maxRecDepth 100000 in
set_option maxHeartbeats 8000000 in
theorem FracEnds_core (w : World) : Calls Tryz.prog 6 #[] w fun e w' => e = .returned (.bool true) ∧ Below w.heap.size w w' := by
  have HK0 := Lib.hid (fun va W (h : Fra W va ((2 : Rat))) => frPow_lit va ((2 : Rat)) ((2 : Rat) ^ (4095 : Int)) (4095) rfl (by decide) (by decide) (.inr (by decide)) ((Fz.small ((2 : Rat)) (by decide +kernel) (by decide +kernel)).mono (by decide) (by decide)) fz_top W h)
  have HK1 := Lib.hid (fun W => quick_lit (2) 1 ((2 : Rat)) (by decide +kernel) (by decide) (by decide) (by decide) (by decide) W)
  have HK2 := Lib.hid (fun va W (h : Fra W va ((2 : Rat))) => frPow_longlit va ((2 : Rat)) (4096) (by decide) (by decide) (.inr (by decide)) ((Fz.small ((2 : Rat)) (by decide +kernel) (by decide +kernel)).mono (by decide) (by decide)) fz_over W h)
  have HK3 := Lib.hid (fun va W (h : Fra W va (Rat.divInt 1 2)) => frPow_longlit va (Rat.divInt 1 2) (4096) (by decide) (by decide) (.inr (by decide)) ((Fz.small (Rat.divInt 1 2) (by decide +kernel) (by decide +kernel)).mono (by decide) (by decide)) fz_half W h)
  have HK4 := Lib.hid (fun W => quick_lit (1) 2 (Rat.divInt 1 2) (by decide +kernel) (by decide) (by decide) (by decide) (by decide) W)
  have HK5 := Lib.hid (fun va W (h : Fra W va ((2 : Rat))) => frPow_lit va ((2 : Rat)) ((2 : Rat) ^ (-4095 : Int)) ((-4095)) rfl (by decide) (by decide) (.inl (by decide +kernel)) ((Fz.small ((2 : Rat)) (by decide +kernel) (by decide +kernel)).mono (by decide) (by decide)) fz_low W h)
  have HK6 := Lib.hid (fun va W (h : Fra W va (Rat.divInt (-2) 1)) => frPow_longlit va (Rat.divInt (-2) 1) ((-9223372036854775808)) (by decide) (by decide) (.inl (by decide +kernel)) ((Fz.small (Rat.divInt (-2) 1) (by decide +kernel) (by decide +kernel)).mono (by decide) (by decide)) fz_least W h)
  have HK7 := Lib.hid (fun W => quick_lit (-2) 1 (Rat.divInt (-2) 1) (by decide +kernel) (by decide) (by decide) (by decide) (by decide) W)
  have HK8 := Lib.hid (fun va W (h : Fra W va (Rat.divInt (-1) 1)) => frPow_lit va (Rat.divInt (-1) 1) (1) ((-9223372036854775808)) e_least (by decide) (by decide) (.inl (by decide +kernel)) ((Fz.small (Rat.divInt (-1) 1) (by decide +kernel) (by decide +kernel)).mono (by decide) (by decide)) ((Fz.small (1) (by decide +kernel) (by decide +kernel)).mono (by decide) (by decide)) W h)
  have HK9 := Lib.hid (fun W => quick_lit (-1) 1 (Rat.divInt (-1) 1) (by decide +kernel) (by decide) (by decide) (by decide) (by decide) W)
  have HK10 := Lib.hid (fun va W (h : Fra W va (Rat.divInt (-1) 1)) => frPow_lit va (Rat.divInt (-1) 1) (Rat.divInt (-1) 1) (9223372036854775807) e_most (by decide) (by decide) (.inr (by decide)) ((Fz.small (Rat.divInt (-1) 1) (by decide +kernel) (by decide +kernel)).mono (by decide) (by decide)) ((Fz.small (Rat.divInt (-1) 1) (by decide +kernel) (by decide +kernel)).mono (by decide) (by decide)) W h)
  have HK11 := Lib.hid (fun va W (h : Fra W va 0) => frPow_err0 va W h)
  have HK12 := Lib.hid (fun W => quick_lit (0) 1 ((0 : Rat)) (by decide +kernel) (by decide) (by decide) (by decide) (by decide) W)
  have HK13 := Lib.hid (fun va W (h : Fra W va ((0 : Rat))) => frPow_lit va ((0 : Rat)) (0) (9223372036854775807) e_zero (by decide) (by decide) (.inr (by decide)) ((Fz.small ((0 : Rat)) (by decide +kernel) (by decide +kernel)).mono (by decide) (by decide)) ((Fz.small (0) (by decide +kernel) (by decide +kernel)).mono (by decide) (by decide)) W h)
  have HK14 := Lib.hid (fun va vb W (h : Fra W va ((2 : Rat) ^ (4095 : Int))) (g : Fra W vb ((2 : Rat) ^ (-4095 : Int))) => frMul_lit va vb _ _ 1 (zpow_back (by decide +kernel) 4095) fz_top fz_low ((Fz.small (1) (by decide +kernel) (by decide +kernel)).mono (by decide) (by decide)) W h g)
  have HK15 := Lib.hid (fun va W (h : Fra W va ((0 : Rat))) => frPow_lit va ((0 : Rat)) (1) (0) (Rat.zpow_zero 0) (by decide) (by decide) (.inr (by decide)) ((Fz.small ((0 : Rat)) (by decide +kernel) (by decide +kernel)).mono (by decide) (by decide)) ((Fz.small (1) (by decide +kernel) (by decide +kernel)).mono (by decide) (by decide)) W h)
  have HK16 := Lib.hid (fun W => frFromInt_lit (-9223372036854775808) (((-9223372036854775808) : Int) : Rat) rfl (by decide) (by decide) W)
  have HK17 := Lib.hid (fun va W (h : Fra W va (((-9223372036854775808) : Int) : Rat)) => frInt_lit va _ (-9223372036854775808) rfl (Sz.of_lt (by decide +kernel)) (by decide) (by decide) W h)
  have HK18 := Lib.hid (fun va W (h : Fra W va (1)) => is_lit va (1) (1) 1 (by decide +kernel) (by decide) (by decide) (by decide) (by decide) W h)
  have HK19 := Lib.hid (fun va W (h : Fra W va (Rat.divInt (-1) 1)) => is_lit va (Rat.divInt (-1) 1) (-1) 1 (by decide +kernel) (by decide) (by decide) (by decide) (by decide) W h)
  have HK20 := Lib.hid (fun va W (h : Fra W va (0)) => is_lit va (0) (0) 1 (by decide +kernel) (by decide) (by decide) (by decide) (by decide) W h)
  have hB := Below.refl w.heap.size w
  go_enter Tryz.func6, Tryz.ntmps6
  go_wp2_with fail
  refine (HK1.out _).mono ?_
  rintro e w1 ⟨⟨v, rfl, g1⟩, hb⟩
  have hz1 := hb.size
  try simp at hz1
  replace hB := hB.trans (hb.mono hB.size)
  clear hb
  go_wp2_with fail
  refine (HK0.out _ _ g1).mono ?_
  rintro e w2 ⟨⟨v, rfl, fa⟩, hb⟩
  obtain ⟨bxa, axa, kxa, cxa, dxa, exa, lxa, mxa, rfl⟩ := fa.opened
  replace g1 := g1.on hb
  have hz2 := hb.size
  try simp at hz2
  replace hB := hB.trans (hb.mono hB.size)
  clear hb
  clear g1
  go_wp2_with fail
  have hb := ((Below.refl w2.heap.size w2).alloc (Nat.le_refl _) (.cells #[.bool bxa, .slice axa kxa cxa, .bool dxa, .slice exa lxa mxa] 26))
  have xa : Bk _ w2.heap.size #[.bool bxa, .slice axa kxa cxa, .bool dxa, .slice exa lxa mxa] 26 := (Bk.new w2 #[.bool bxa, .slice axa kxa cxa, .bool dxa, .slice exa lxa mxa] 26)
  replace fa := fa.on hb
  replace hB := hB.trans (hb.mono hB.size)
  clear hb
  obtain ⟨wax, hwax⟩ : ∃ W, W = (w2.alloc (.cells #[.bool bxa, .slice axa kxa cxa, .bool dxa, .slice exa lxa mxa] 26)) := ⟨_, rfl⟩
  rw [← hwax] at hB xa fa ⊢
  clear hwax
  refine (HK1.out _).mono ?_
  rintro e w3 ⟨⟨v, rfl, g1⟩, hb⟩
  replace xa := xa.on hb
  replace fa := fa.on hb
  have hz3 := hb.size
  try simp at hz3
  replace hB := hB.trans (hb.mono hB.size)
  clear hb
  go_wp2_with fail
  refine (HK2.out _ _ g1).mono ?_
  rintro e w4 ⟨rfl, hb⟩
  replace xa := xa.on hb
  replace fa := fa.on hb
  replace g1 := g1.on hb
  have hz4 := hb.size
  try simp at hz4
  replace hB := hB.trans (hb.mono hB.size)
  clear hb
  clear g1
  go_wp2_with fail
  have hb := ((Below.refl w4.heap.size w4).alloc (Nat.le_refl _) (.cells #[.bool false, .slice none 0 0, .bool false, .slice none 0 0] 26))
  have xb : Bk _ w4.heap.size #[.bool false, .slice none 0 0, .bool false, .slice none 0 0] 26 := (Bk.new w4 #[.bool false, .slice none 0 0, .bool false, .slice none 0 0] 26)
  replace xa := xa.on hb
  replace fa := fa.on hb
  replace hB := hB.trans (hb.mono hB.size)
  clear hb
  clear xb
  obtain ⟨wbx, hwbx⟩ : ∃ W, W = (w4.alloc (.cells #[.bool false, .slice none 0 0, .bool false, .slice none 0 0] 26)) := ⟨_, rfl⟩
  rw [← hwbx] at hB xa fa ⊢
  clear hwbx
  refine (HK4.out _).mono ?_
  rintro e w5 ⟨⟨v, rfl, g1⟩, hb⟩
  replace xa := xa.on hb
  replace fa := fa.on hb
  have hz5 := hb.size
  try simp at hz5
  replace hB := hB.trans (hb.mono hB.size)
  clear hb
  go_wp2_with fail
  refine (HK3.out _ _ g1).mono ?_
  rintro e w6 ⟨rfl, hb⟩
  replace xa := xa.on hb
  replace fa := fa.on hb
  replace g1 := g1.on hb
  have hz6 := hb.size
  try simp at hz6
  replace hB := hB.trans (hb.mono hB.size)
  clear hb
  clear g1
  go_wp2_with fail
  have hb := ((Below.refl w6.heap.size w6).alloc (Nat.le_refl _) (.cells #[.bool false, .slice none 0 0, .bool false, .slice none 0 0] 26))
  have xc : Bk _ w6.heap.size #[.bool false, .slice none 0 0, .bool false, .slice none 0 0] 26 := (Bk.new w6 #[.bool false, .slice none 0 0, .bool false, .slice none 0 0] 26)
  replace xa := xa.on hb
  replace fa := fa.on hb
  replace hB := hB.trans (hb.mono hB.size)
  clear hb
  clear xc
  obtain ⟨wcx, hwcx⟩ : ∃ W, W = (w6.alloc (.cells #[.bool false, .slice none 0 0, .bool false, .slice none 0 0] 26)) := ⟨_, rfl⟩
  rw [← hwcx] at hB xa fa ⊢
  clear hwcx
  refine (HK1.out _).mono ?_
  rintro e w7 ⟨⟨v, rfl, g1⟩, hb⟩
  replace xa := xa.on hb
  replace fa := fa.on hb
  have hz7 := hb.size
  try simp at hz7
  replace hB := hB.trans (hb.mono hB.size)
  clear hb
  go_wp2_with fail
  refine (HK5.out _ _ g1).mono ?_
  rintro e w8 ⟨⟨v, rfl, fd⟩, hb⟩
  obtain ⟨bxd, axd, kxd, cxd, dxd, exd, lxd, mxd, rfl⟩ := fd.opened
  replace xa := xa.on hb
  replace fa := fa.on hb
  replace g1 := g1.on hb
  have hz8 := hb.size
  try simp at hz8
  replace hB := hB.trans (hb.mono hB.size)
  clear hb
  clear g1
  go_wp2_with fail
  have hb := ((Below.refl w8.heap.size w8).alloc (Nat.le_refl _) (.cells #[.bool bxd, .slice axd kxd cxd, .bool dxd, .slice exd lxd mxd] 26))
  have xd : Bk _ w8.heap.size #[.bool bxd, .slice axd kxd cxd, .bool dxd, .slice exd lxd mxd] 26 := (Bk.new w8 #[.bool bxd, .slice axd kxd cxd, .bool dxd, .slice exd lxd mxd] 26)
  replace xa := xa.on hb
  replace fa := fa.on hb
  replace fd := fd.on hb
  replace hB := hB.trans (hb.mono hB.size)
  clear hb
  obtain ⟨wdx, hwdx⟩ : ∃ W, W = (w8.alloc (.cells #[.bool bxd, .slice axd kxd cxd, .bool dxd, .slice exd lxd mxd] 26)) := ⟨_, rfl⟩
  rw [← hwdx] at hB xa xd fa fd ⊢
  clear hwdx
  refine (HK7.out _).mono ?_
  rintro e w9 ⟨⟨v, rfl, g1⟩, hb⟩
  replace xa := xa.on hb
  replace xd := xd.on hb
  replace fa := fa.on hb
  replace fd := fd.on hb
  have hz9 := hb.size
  try simp at hz9
  replace hB := hB.trans (hb.mono hB.size)
  clear hb
  go_wp2_with fail
  refine (HK6.out _ _ g1).mono ?_
  rintro e w10 ⟨rfl, hb⟩
  replace xa := xa.on hb
  replace xd := xd.on hb
  replace fa := fa.on hb
  replace fd := fd.on hb
  replace g1 := g1.on hb
  have hz10 := hb.size
  try simp at hz10
  replace hB := hB.trans (hb.mono hB.size)
  clear hb
  clear g1
  go_wp2_with fail
  have hb := ((Below.refl w10.heap.size w10).alloc (Nat.le_refl _) (.cells #[.bool false, .slice none 0 0, .bool false, .slice none 0 0] 26))
  have xe : Bk _ w10.heap.size #[.bool false, .slice none 0 0, .bool false, .slice none 0 0] 26 := (Bk.new w10 #[.bool false, .slice none 0 0, .bool false, .slice none 0 0] 26)
  replace xa := xa.on hb
  replace xd := xd.on hb
  replace fa := fa.on hb
  replace fd := fd.on hb
  replace hB := hB.trans (hb.mono hB.size)
  clear hb
  clear xe
  obtain ⟨wex, hwex⟩ : ∃ W, W = (w10.alloc (.cells #[.bool false, .slice none 0 0, .bool false, .slice none 0 0] 26)) := ⟨_, rfl⟩
  rw [← hwex] at hB xa xd fa fd ⊢
  clear hwex
  refine (HK9.out _).mono ?_
  rintro e w11 ⟨⟨v, rfl, g1⟩, hb⟩
  replace xa := xa.on hb
  replace xd := xd.on hb
  replace fa := fa.on hb
  replace fd := fd.on hb
  have hz11 := hb.size
  try simp at hz11
  replace hB := hB.trans (hb.mono hB.size)
  clear hb
  go_wp2_with fail
  refine (HK8.out _ _ g1).mono ?_
  rintro e w12 ⟨⟨v, rfl, ff⟩, hb⟩
  obtain ⟨bxf, axf, kxf, cxf, dxf, exf, lxf, mxf, rfl⟩ := ff.opened
  replace xa := xa.on hb
  replace xd := xd.on hb
  replace fa := fa.on hb
  replace fd := fd.on hb
  replace g1 := g1.on hb
  have hz12 := hb.size
  try simp at hz12
  replace hB := hB.trans (hb.mono hB.size)
  clear hb
  clear g1
  go_wp2_with fail
  have hb := ((Below.refl w12.heap.size w12).alloc (Nat.le_refl _) (.cells #[.bool bxf, .slice axf kxf cxf, .bool dxf, .slice exf lxf mxf] 26))
  have xf : Bk _ w12.heap.size #[.bool bxf, .slice axf kxf cxf, .bool dxf, .slice exf lxf mxf] 26 := (Bk.new w12 #[.bool bxf, .slice axf kxf cxf, .bool dxf, .slice exf lxf mxf] 26)
  replace xa := xa.on hb
  replace xd := xd.on hb
  replace fa := fa.on hb
  replace fd := fd.on hb
  replace ff := ff.on hb
  replace hB := hB.trans (hb.mono hB.size)
  clear hb
  obtain ⟨wfx, hwfx⟩ : ∃ W, W = (w12.alloc (.cells #[.bool bxf, .slice axf kxf cxf, .bool dxf, .slice exf lxf mxf] 26)) := ⟨_, rfl⟩
  rw [← hwfx] at hB xa xd xf fa fd ff ⊢
  clear hwfx
  refine (HK9.out _).mono ?_
  rintro e w13 ⟨⟨v, rfl, g1⟩, hb⟩
  replace xa := xa.on hb
  replace xd := xd.on hb
  replace xf := xf.on hb
  replace fa := fa.on hb
  replace fd := fd.on hb
  replace ff := ff.on hb
  have hz13 := hb.size
  try simp at hz13
  replace hB := hB.trans (hb.mono hB.size)
  clear hb
  go_wp2_with fail
  refine (HK10.out _ _ g1).mono ?_
  rintro e w14 ⟨⟨v, rfl, fg⟩, hb⟩
  obtain ⟨bxg, axg, kxg, cxg, dxg, exg, lxg, mxg, rfl⟩ := fg.opened
  replace xa := xa.on hb
  replace xd := xd.on hb
  replace xf := xf.on hb
  replace fa := fa.on hb
  replace fd := fd.on hb
  replace ff := ff.on hb
  replace g1 := g1.on hb
  have hz14 := hb.size
  try simp at hz14
  replace hB := hB.trans (hb.mono hB.size)
  clear hb
  clear g1
  go_wp2_with fail
  have hb := ((Below.refl w14.heap.size w14).alloc (Nat.le_refl _) (.cells #[.bool bxg, .slice axg kxg cxg, .bool dxg, .slice exg lxg mxg] 26))
  have xg : Bk _ w14.heap.size #[.bool bxg, .slice axg kxg cxg, .bool dxg, .slice exg lxg mxg] 26 := (Bk.new w14 #[.bool bxg, .slice axg kxg cxg, .bool dxg, .slice exg lxg mxg] 26)
  replace xa := xa.on hb
  replace xd := xd.on hb
  replace xf := xf.on hb
  replace fa := fa.on hb
  replace fd := fd.on hb
  replace ff := ff.on hb
  replace fg := fg.on hb
  replace hB := hB.trans (hb.mono hB.size)
  clear hb
  obtain ⟨wgx, hwgx⟩ : ∃ W, W = (w14.alloc (.cells #[.bool bxg, .slice axg kxg cxg, .bool dxg, .slice exg lxg mxg] 26)) := ⟨_, rfl⟩
  rw [← hwgx] at hB xa xd xf xg fa fd ff fg ⊢
  clear hwgx
  refine (HK12.out _).mono ?_
  rintro e w15 ⟨⟨v, rfl, g1⟩, hb⟩
  replace xa := xa.on hb
  replace xd := xd.on hb
  replace xf := xf.on hb
  replace xg := xg.on hb
  replace fa := fa.on hb
  replace fd := fd.on hb
  replace ff := ff.on hb
  replace fg := fg.on hb
  have hz15 := hb.size
  try simp at hz15
  replace hB := hB.trans (hb.mono hB.size)
  clear hb
  go_wp2_with fail
  refine (HK11.out _ _ g1).mono ?_
  rintro e w16 ⟨rfl, hb⟩
  replace xa := xa.on hb
  replace xd := xd.on hb
  replace xf := xf.on hb
  replace xg := xg.on hb
  replace fa := fa.on hb
  replace fd := fd.on hb
  replace ff := ff.on hb
  replace fg := fg.on hb
  replace g1 := g1.on hb
  have hz16 := hb.size
  try simp at hz16
  replace hB := hB.trans (hb.mono hB.size)
  clear hb
  clear g1
  go_wp2_with fail
  have hb := ((Below.refl w16.heap.size w16).alloc (Nat.le_refl _) (.cells #[.bool false, .slice none 0 0, .bool false, .slice none 0 0] 26))
  have xh : Bk _ w16.heap.size #[.bool false, .slice none 0 0, .bool false, .slice none 0 0] 26 := (Bk.new w16 #[.bool false, .slice none 0 0, .bool false, .slice none 0 0] 26)
  replace xa := xa.on hb
  replace xd := xd.on hb
  replace xf := xf.on hb
  replace xg := xg.on hb
  replace fa := fa.on hb
  replace fd := fd.on hb
  replace ff := ff.on hb
  replace fg := fg.on hb
  replace hB := hB.trans (hb.mono hB.size)
  clear hb
  clear xh
  obtain ⟨whx, hwhx⟩ : ∃ W, W = (w16.alloc (.cells #[.bool false, .slice none 0 0, .bool false, .slice none 0 0] 26)) := ⟨_, rfl⟩
  rw [← hwhx] at hB xa xd xf xg fa fd ff fg ⊢
  clear hwhx
  refine (HK12.out _).mono ?_
  rintro e w17 ⟨⟨v, rfl, g1⟩, hb⟩
  replace xa := xa.on hb
  replace xd := xd.on hb
  replace xf := xf.on hb
  replace xg := xg.on hb
  replace fa := fa.on hb
  replace fd := fd.on hb
  replace ff := ff.on hb
  replace fg := fg.on hb
  have hz17 := hb.size
  try simp at hz17
  replace hB := hB.trans (hb.mono hB.size)
  clear hb
  go_wp2_with fail
  refine (HK13.out _ _ g1).mono ?_
  rintro e w18 ⟨⟨v, rfl, fi⟩, hb⟩
  obtain ⟨bxi, axi, kxi, cxi, dxi, exi, lxi, mxi, rfl⟩ := fi.opened
  replace xa := xa.on hb
  replace xd := xd.on hb
  replace xf := xf.on hb
  replace xg := xg.on hb
  replace fa := fa.on hb
  replace fd := fd.on hb
  replace ff := ff.on hb
  replace fg := fg.on hb
  replace g1 := g1.on hb
  have hz18 := hb.size
  try simp at hz18
  replace hB := hB.trans (hb.mono hB.size)
  clear hb
  clear g1
  go_wp2_with fail
  have hb := ((Below.refl w18.heap.size w18).alloc (Nat.le_refl _) (.cells #[.bool bxi, .slice axi kxi cxi, .bool dxi, .slice exi lxi mxi] 26))
  have xi : Bk _ w18.heap.size #[.bool bxi, .slice axi kxi cxi, .bool dxi, .slice exi lxi mxi] 26 := (Bk.new w18 #[.bool bxi, .slice axi kxi cxi, .bool dxi, .slice exi lxi mxi] 26)
  replace xa := xa.on hb
  replace xd := xd.on hb
  replace xf := xf.on hb
  replace xg := xg.on hb
  replace fa := fa.on hb
  replace fd := fd.on hb
  replace ff := ff.on hb
  replace fg := fg.on hb
  replace fi := fi.on hb
  replace hB := hB.trans (hb.mono hB.size)
  clear hb
  obtain ⟨wix, hwix⟩ : ∃ W, W = (w18.alloc (.cells #[.bool bxi, .slice axi kxi cxi, .bool dxi, .slice exi lxi mxi] 26)) := ⟨_, rfl⟩
  rw [← hwix] at hB xa xd xf xg xi fa fd ff fg fi ⊢
  clear hwix
  refine (HK12.out _).mono ?_
  rintro e w19 ⟨⟨v, rfl, g1⟩, hb⟩
  replace xa := xa.on hb
  replace xd := xd.on hb
  replace xf := xf.on hb
  replace xg := xg.on hb
  replace xi := xi.on hb
  replace fa := fa.on hb
  replace fd := fd.on hb
  replace ff := ff.on hb
  replace fg := fg.on hb
  replace fi := fi.on hb
  have hz19 := hb.size
  try simp at hz19
  replace hB := hB.trans (hb.mono hB.size)
  clear hb
  go_wp2_with fail
  refine (HK15.out _ _ g1).mono ?_
  rintro e w20 ⟨⟨v, rfl, fj⟩, hb⟩
  obtain ⟨bxj, axj, kxj, cxj, dxj, exj, lxj, mxj, rfl⟩ := fj.opened
  replace xa := xa.on hb
  replace xd := xd.on hb
  replace xf := xf.on hb
  replace xg := xg.on hb
  replace xi := xi.on hb
  replace fa := fa.on hb
  replace fd := fd.on hb
  replace ff := ff.on hb
  replace fg := fg.on hb
  replace fi := fi.on hb
  replace g1 := g1.on hb
  have hz20 := hb.size
  try simp at hz20
  replace hB := hB.trans (hb.mono hB.size)
  clear hb
  clear g1
  have pa := xa.all4
  have pd := xd.all4
  have pf := xf.all4
  have pg := xg.all4
  have pi := xi.all4
  have lta := xa.lt
  have ltd := xd.lt
  have ltf := xf.lt
  have ltg := xg.lt
  have lti := xi.lt
  go_wp2_with fail
  clear lta
  clear ltd
  clear ltf
  clear ltg
  clear lti
  clear pa pd pf pg pi
  have hb := ((Below.refl w20.heap.size w20).alloc (Nat.le_refl _) (.cells #[.bool bxj, .slice axj kxj cxj, .bool dxj, .slice exj lxj mxj] 26))
  have xj : Bk _ w20.heap.size #[.bool bxj, .slice axj kxj cxj, .bool dxj, .slice exj lxj mxj] 26 := (Bk.new w20 #[.bool bxj, .slice axj kxj cxj, .bool dxj, .slice exj lxj mxj] 26)
  replace xa := xa.on hb
  replace xd := xd.on hb
  replace xf := xf.on hb
  replace xg := xg.on hb
  replace xi := xi.on hb
  replace fa := fa.on hb
  replace fd := fd.on hb
  replace ff := ff.on hb
  replace fg := fg.on hb
  replace fi := fi.on hb
  replace fj := fj.on hb
  replace hB := hB.trans (hb.mono hB.size)
  clear hb
  obtain ⟨wjx, hwjx⟩ : ∃ W, W = (w20.alloc (.cells #[.bool bxj, .slice axj kxj cxj, .bool dxj, .slice exj lxj mxj] 26)) := ⟨_, rfl⟩
  rw [← hwjx] at hB xa xd xf xg xi xj fa fd ff fg fi fj ⊢
  clear hwjx
  refine (HK14.out _ _ _ fa fd).mono ?_
  rintro e w21 ⟨⟨v, rfl, fk⟩, hb⟩
  obtain ⟨bxk, axk, kxk, cxk, dxk, exk, lxk, mxk, rfl⟩ := fk.opened
  replace xa := xa.on hb
  replace xd := xd.on hb
  replace xf := xf.on hb
  replace xg := xg.on hb
  replace xi := xi.on hb
  replace xj := xj.on hb
  replace fa := fa.on hb
  replace fd := fd.on hb
  replace ff := ff.on hb
  replace fg := fg.on hb
  replace fi := fi.on hb
  replace fj := fj.on hb
  have hz21 := hb.size
  try simp at hz21
  replace hB := hB.trans (hb.mono hB.size)
  clear hb
  clear fa
  clear fd
  clear xa
  clear xd
  go_wp2_with fail
  have hb := ((Below.refl w21.heap.size w21).alloc (Nat.le_refl _) (.cells #[.bool bxk, .slice axk kxk cxk, .bool dxk, .slice exk lxk mxk] 26))
  have xk : Bk _ w21.heap.size #[.bool bxk, .slice axk kxk cxk, .bool dxk, .slice exk lxk mxk] 26 := (Bk.new w21 #[.bool bxk, .slice axk kxk cxk, .bool dxk, .slice exk lxk mxk] 26)
  replace xf := xf.on hb
  replace xg := xg.on hb
  replace xi := xi.on hb
  replace xj := xj.on hb
  replace ff := ff.on hb
  replace fg := fg.on hb
  replace fi := fi.on hb
  replace fj := fj.on hb
  replace fk := fk.on hb
  replace hB := hB.trans (hb.mono hB.size)
  clear hb
  obtain ⟨wkx, hwkx⟩ : ∃ W, W = (w21.alloc (.cells #[.bool bxk, .slice axk kxk cxk, .bool dxk, .slice exk lxk mxk] 26)) := ⟨_, rfl⟩
  rw [← hwkx] at hB xf xg xi xj xk ff fg fi fj fk ⊢
  clear hwkx
  refine (HK16.out _).mono ?_
  rintro e w22 ⟨⟨v, rfl, g1⟩, hb⟩
  replace xf := xf.on hb
  replace xg := xg.on hb
  replace xi := xi.on hb
  replace xj := xj.on hb
  replace xk := xk.on hb
  replace ff := ff.on hb
  replace fg := fg.on hb
  replace fi := fi.on hb
  replace fj := fj.on hb
  replace fk := fk.on hb
  have hz22 := hb.size
  try simp at hz22
  replace hB := hB.trans (hb.mono hB.size)
  clear hb
  go_wp2_with fail
  refine (HK17.out _ _ g1).mono ?_
  rintro e w23 ⟨rfl, hb⟩
  replace xf := xf.on hb
  replace xg := xg.on hb
  replace xi := xi.on hb
  replace xj := xj.on hb
  replace xk := xk.on hb
  replace ff := ff.on hb
  replace fg := fg.on hb
  replace fi := fi.on hb
  replace fj := fj.on hb
  replace fk := fk.on hb
  replace g1 := g1.on hb
  have hz23 := hb.size
  try simp at hz23
  replace hB := hB.trans (hb.mono hB.size)
  clear hb
  clear g1
  have pf := xf.all4
  have pg := xg.all4
  have pi := xi.all4
  have pj := xj.all4
  have pk := xk.all4
  have ltf := xf.lt
  have ltg := xg.lt
  have lti := xi.lt
  have ltj := xj.lt
  have ltk := xk.lt
  go_wp2_with fail
  clear ltf
  clear ltg
  clear lti
  clear ltj
  clear ltk
  clear pf pg pi pj pk
  refine (HK18.out _ _ fk).mono ?_
  rintro e w24 ⟨rfl, hb⟩
  replace xf := xf.on hb
  replace xg := xg.on hb
  replace xi := xi.on hb
  replace xj := xj.on hb
  replace xk := xk.on hb
  replace ff := ff.on hb
  replace fg := fg.on hb
  replace fi := fi.on hb
  replace fj := fj.on hb
  replace fk := fk.on hb
  have hz24 := hb.size
  try simp at hz24
  replace hB := hB.trans (hb.mono hB.size)
  clear hb
  clear fk
  clear xk
  have pf := xf.all4
  have pg := xg.all4
  have pi := xi.all4
  have pj := xj.all4
  have ltf := xf.lt
  have ltg := xg.lt
  have lti := xi.lt
  have ltj := xj.lt
  go_wp2_with fail
  clear ltf
  clear ltg
  clear lti
  clear ltj
  clear pf pg pi pj
  refine (HK18.out _ _ ff).mono ?_
  rintro e w25 ⟨rfl, hb⟩
  replace xf := xf.on hb
  replace xg := xg.on hb
  replace xi := xi.on hb
  replace xj := xj.on hb
  replace ff := ff.on hb
  replace fg := fg.on hb
  replace fi := fi.on hb
  replace fj := fj.on hb
  have hz25 := hb.size
  try simp at hz25
  replace hB := hB.trans (hb.mono hB.size)
  clear hb
  clear ff
  clear xf
  have pg := xg.all4
  have pi := xi.all4
  have pj := xj.all4
  have ltg := xg.lt
  have lti := xi.lt
  have ltj := xj.lt
  go_wp2_with fail
  clear ltg
  clear lti
  clear ltj
  clear pg pi pj
  refine (HK19.out _ _ fg).mono ?_
  rintro e w26 ⟨rfl, hb⟩
  replace xg := xg.on hb
  replace xi := xi.on hb
  replace xj := xj.on hb
  replace fg := fg.on hb
  replace fi := fi.on hb
  replace fj := fj.on hb
  have hz26 := hb.size
  try simp at hz26
  replace hB := hB.trans (hb.mono hB.size)
  clear hb
  clear fg
  clear xg
  have pi := xi.all4
  have pj := xj.all4
  have lti := xi.lt
  have ltj := xj.lt
  go_wp2_with fail
  clear lti
  clear ltj
  clear pi pj
  refine (HK20.out _ _ fi).mono ?_
  rintro e w27 ⟨rfl, hb⟩
  replace xi := xi.on hb
  replace xj := xj.on hb
  replace fi := fi.on hb
  replace fj := fj.on hb
  have hz27 := hb.size
  try simp at hz27
  replace hB := hB.trans (hb.mono hB.size)
  clear hb
  clear fi
  clear xi
  have pj := xj.all4
  have ltj := xj.lt
  go_wp2_with fail
  clear ltj
  clear pj
  refine (HK18.out _ _ fj).mono ?_
  rintro e w28 ⟨rfl, hb⟩
  replace xj := xj.on hb
  replace fj := fj.on hb
  have hz28 := hb.size
  try simp at hz28
  replace hB := hB.trans (hb.mono hB.size)
  clear hb
  clear fj
  clear xj
  go_wp2_with fail
  refine (law2_awake_any _).mono ?_
  rintro e w29 ⟨rfl, hb⟩
  have hz29 := hb.size
  try simp at hz29
  replace hB := hB.trans (hb.mono hB.size)
  clear hb
  go_wp2
  go_ret
  exact ⟨rfl, hB⟩
end Go.Proofs.YthlclegajldphaaGreat
namespace Go.Proofs.YthlclegajldphaaGreat
open Go.ChangeShapes Go.WideShapes Go.ChangeAt Go.RowKit
theorem fracEnds_named : Tryz.pinned.checked.prog.funcNamed Rows.fracEndsRow.func = some 6 := by kernel_rfl
theorem fracEnds_closed : joinedFacts Tryz.pinned.checked.prog 6 Tryz.f6 Rows.fracEndsSpec Rows.fracEndsRow = true := by kernel_rfl
theorem fracEnds_inst : Tryz.f6.isInstance Tryz.pinned.checked.prog Rows.fracEndsRow.origin Rows.fracEndsRow.targs := of_decide_eq_true (by kernel_rfl)
theorem fracEnds_wrap : Tryz.f6.isWrapper Tryz.pinned.checked.prog Rows.fracEndsRow.wrapper Rows.fracEndsRow.mainSum := by unfold Func.isWrapper; first | (rw [if_pos (by decide +kernel)]; kernel_rfl) | (rw [if_neg (by decide +kernel)]; exact ⟨rfl, rfl⟩)
end Go.Proofs.YthlclegajldphaaGreat
namespace Go.Proofs.YthlclegajldphaaGreat
open Go.ChangeShapes Go.WideShapes Go.ChangeAt Go.RowKit Wh
set_option maxRecDepth 100000 in
theorem fracEnds_lifted (os : Os) (started : os.Started) (H : Type) (enc : TypeId × Value → H) :
    ReturnsInHanded {} Tryz.checked os 6 .any (Rows.fracEndsSpec.pre6 enc Tryz.prog Tryz.f6 Rows.fracEndsRow.domain false) (Rows.fracEndsSpec.post enc Tryz.prog Tryz.f6 false true false false) := by
  refine returnsInHanded_of_change_sized (C := Tryz.checked) Tryz.ownKnob started (by kernel_rfl) Tryz.func6
    (ChangeSpec.witness6 (enc := enc) (C := Tryz.checked) false ⟨#[], #[], []⟩ 8 (by kernel_rfl) (by kernel_rfl) (by kernel_rfl) (by kernel_rfl)) ?_
  intro W base args ds gs before hval0 hW hcnd hsz0 _
  have hW' := hW
  obtain ⟨p, q, hA0, hV, rfl, hfz, hnd⟩ := hW
  have hA : DataW.TrodAll enc Tryz.prog W 0 (fun _ => true) true Tryz.f6.params.toList args.toList ds p := hA0
  rw [Tryz.params6] at hA
  obtain ⟨hargs, rfl, rfl⟩ := trodAll_nil hA
  obtain rfl : args = #[] := by cases args; simp_all
  obtain ⟨rfl, rfl⟩ := trodVars_none hV
  clear hA0 hval0
  simp only [List.append_nil] at hW'
  refine (FracEnds_core W).mono fun e W' ⟨he, hb⟩ => ?_
  subst he
  exact ⟨_, rfl, lawPost (pa := _) (pv := []) hW' hb (by simp) (ok_one (by kernel_rfl) rfl (okWide_bool_mk Tryz.underlying4 _)) (fun _ _ _ => (trodAll_cons_mk (shut_bool Tryz.underlying4 _) trodAll_mk0)) (fun sp hsp => trodAll_mk0) (fun _ _ => rfl)⟩
theorem fracEnds_proved : Rows.FracEndsSaid :=
  OpenClaim.holds_of_wide 6 Tryz.f6 rfl rfl rfl rfl rfl rfl rfl ⟨rfl, rfl, rfl, rfl, rfl⟩ rfl rfl rfl rfl rfl fracEnds_named Tryz.func6 fracEnds_closed fracEnds_inst fracEnds_wrap
    (fun os started H enc _ => fracEnds_lifted os started H enc)
end Go.Proofs.YthlclegajldphaaGreat
