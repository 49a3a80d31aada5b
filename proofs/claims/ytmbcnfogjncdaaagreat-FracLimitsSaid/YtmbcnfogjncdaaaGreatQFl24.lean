/- A part of the proofs about fractions. -/
import Derived.Outline
import Derived.Test.YtmbcnfogjncdaaaGreatQFl1
import Derived.Test.YtmbcnfogjncdaaaGreatQFl18
import Derived.Test.YtmbcnfogjncdaaaGreatQFl19
import Derived.Test.YtmbcnfogjncdaaaGreatQFl20
import Derived.Test.YtmbcnfogjncdaaaGreatQFl22
import Derived.Test.YtmbcnfogjncdaaaGreatQFl23
import Derived.Test.YtmbcnfogjncdaaaGreatQFl9
set_option maxRecDepth 100000
set_option maxHeartbeats 1000000
namespace Go.Proofs.YtmbcnfogjncdaaaGreat
open Go.RowKit Wh
theorem is_ok (b : Bool) (a : Option Addr) (k c : Nat) (b' : Bool) (a' : Option Addr) (k' c' : Nat) (q : Rat) (n d : Int) (h1 : -9223372036854775808 ≤ n) (h2 : n ≤ 9223372036854775807) (hd0 : d ≠ 0) (hd2 : d.natAbs < 65536) (w : World) (h : Fra w (.agg #[.bool b, .slice a k c, .bool b', .slice a' k' c']) q) :
  Calls Tryz.prog 80 #[.agg #[.bool b, .slice a k c, .bool b', .slice a' k' c'], .int .i64 0, .int .i64 n, .int .i64 d] w fun e w' => e = .returned (.bool (decide (q = Rat.divInt n d))) ∧ Below w.heap.size w w' := by
 have HQ := Lib.hid (fun W => quick_any n d h1 h2 hd0 hd2 W)
 have HS := Lib.hid (fun vb W (hW : Below w.heap.size w W) (g : Fra W vb (Rat.divInt n d)) => ref2Same_fra (.agg #[.bool b, .slice a k c, .bool b', .slice a' k' c']) vb q (Rat.divInt n d) W (h.below hW (Nat.le_refl _)) g)
 clear h h1 h2 hd0 hd2
 have hB := Below.refl w.heap.size w
 obtain ⟨al, xa, hN⟩ := mk hB #[.bool b, .slice a k c, .bool b', .slice a' k' c'] 39
 replace hB := hN; clear al hN
 try simp only [World.size_alloc] at xa
 go_enter Tryz.func80, Tryz.ntmps80
 go_upto_region 1 with fail
 obtain ⟨wz, hwz⟩ : ∃ W, W = (w.alloc (.cells #[.bool b, .slice a k c, .bool b', .slice a' k' c'] 39)) := ⟨_, rfl⟩
 rw [← hwz] at hB xa ⊢
 clear hwz
 have qa := xa.lt
 obtain ⟨ga0, ga1, ga2, ga3⟩ := xa.cells4
 refine wp_region_noPanic ?_
 refine wp_region_held_drew (S := (fun w' => w'.cell? ⟨w.heap.size, 0, none⟩ = some (.bool b) ∧ w'.cell? ⟨w.heap.size, 1, none⟩ = some (.slice a k c) ∧ w'.cell? ⟨w.heap.size, 2, none⟩ = some (.bool b') ∧ w'.cell? ⟨w.heap.size, 3, none⟩ = some (.slice a' k' c'))) (by kernel_rfl) ⟨ga0, ga1, ga2, ga3⟩ (fun hR0 => ?_)
 change wpAnyH _ _ _ _ _ 10 #[false, false, false, false, false, false, false, false, false, false] _ _
 clear ga0 ga1 ga2 ga3
 refine tz 0 ?_
 (try simp only [Act.put, sa, List.set])
 refine tz 1 ?_
 (try simp only [Act.put, sa, List.set])
 refine tz 2 ?_
 (try simp only [Act.put, sa, List.set])
 refine tz 3 ?_
 (try simp only [Act.put, sa, List.set])
 refine tz 4 ?_
 (try simp only [Act.put, sa, List.set])
 refine tz 5 ?_
 (try simp only [Act.put, sa, List.set])
 refine rz 6 fun K hK => ?_
 go_simp
 go_at_call 38; have hBd := hB.drew; refine (HQ.out _).mono ?_; rintro e w1 ⟨⟨v, rfl, gf⟩, hb⟩; replace hb := (Below.refl wz.heap.size wz).drew.trans hb; obtain ⟨b5, a5, k5, c5, b6, a6, k6, c6, rfl⟩ := gf.opened; replace xa := xa.on hb; replace hB := hB.trans (hb.mono hB.size); have hz1 := hb.size
 (try go_wp2_with fail)
 refine hK.out _ _ (keep4 hb qa hR0) (fun hR1 => ?_)
 clear hK K hR0
 (try simp only [Act.put, sa, List.set])
 replace qa := Nat.lt_of_lt_of_le qa hz1; clear hb hBd
 refine rz 7 fun K hK => ?_
 go_simp
 go_at_call 29; have hBd := hB; refine (HS.out _ _ hBd gf).mono ?_; rintro e w2 ⟨rfl, hb⟩; replace xa := xa.on hb; replace hB := hB.trans (hb.mono hB.size); have hz2 := hb.size
 (try go_wp2_with fail)
 refine hK.out _ _ (keep4 hb qa hR1) (fun hR2 => ?_)
 clear hK K hR1
 (try simp only [Act.put, sa, List.set])
 replace qa := Nat.lt_of_lt_of_le qa hz2; clear hb hBd
 refine tz 8 ?_
 (try simp only [Act.put, sa, List.set])
 refine tz 9 ?_
 (try simp only [Act.put, sa, List.set])
 refine wpAnyH_done (by kernel_rfl) ?_ _
 refine NoPanic.normal ?_
 clear hR2 qa xa
 have HB := Lib.hid hB
 clear hB
 go_wp2
 go_ret
 exact ⟨rfl, HB.out⟩
end Go.Proofs.YtmbcnfogjncdaaaGreat
namespace Go.Proofs.YtmbcnfogjncdaaaGreat
open Go.RowKit Wh
theorem frMake_lit (va vb : Value) (n d : Int) (r : Rat) (hr : Rat.divInt n d = r) (hn : Sz 1024 n) (hd : Sz 1024 d) (hd0 : d ≠ 0) (hf : Fz 256 256 r) (w : World) (h : Num w va n) (g : Num w vb d) :
  Calls Tryz.prog 24 #[va, vb] w fun e w' => (∃ v, e = .returned (.tuple #[v, .int .i64 0]) ∧ Fra w' v r) ∧ Below w.heap.size w w' := by
 subst hr
 obtain ⟨b, a, k, c, rfl⟩ := h.opened
 obtain ⟨b', a', k', c', rfl⟩ := g.opened
 exact (Make_ok b a k c b' a' k' c' n d hn hd hd0 hf.1 hf.2 w h g).mono fun _ _ ⟨⟨v, he, q⟩, hb⟩ => ⟨⟨v, he, q.fra⟩, hb⟩
theorem frAdd_lit (va vb : Value) (p q r : Rat) (hr : p + q = r) (hp : Fz 256 256 p) (hq : Fz 256 256 q) (hf : Fz 256 256 r) (w : World) (h : Fra w va p) (g : Fra w vb q) :
  Calls Tryz.prog 43 #[va, vb] w fun e w' => (∃ v, e = .returned (.tuple #[v, .int .i64 0]) ∧ Fra w' v r) ∧ Below w.heap.size w w' := by
 subst hr
 obtain ⟨b, a, k, c, b', a', k', c', rfl⟩ := h.opened
 obtain ⟨bx, ax, kx, cx, bx', ax', kx', cx', rfl⟩ := g.opened
 exact (frAdd_ok p q b a k c b' a' k' c' bx ax kx cx bx' ax' kx' cx' hp hq hf w h g).mono fun _ _ ⟨⟨v, he, q⟩, hb⟩ => ⟨⟨v, he, q.fra⟩, hb⟩
theorem frPow_lit (va : Value) (p r : Rat) (n : Int) (hr : p ^ n = r) (hn1 : -9223372036854775808 ≤ n) (hn2 : n ≤ 9223372036854775807) (h0 : p ≠ 0 ∨ 0 ≤ n) (hp : Fz 256 256 p) (hf : Fz 256 256 r) (w : World) (h : Fra w va p) :
  Calls Tryz.prog 39 #[va, .int .i64 n] w fun e w' => (∃ v, e = .returned (.tuple #[v, .int .i64 0]) ∧ Fra w' v r) ∧ Below w.heap.size w w' := by
 subst hr
 obtain ⟨b, a, k, c, b', a', k', c', rfl⟩ := h.opened
 refine (frPow_any b a k c b' a' k' c' p hp n hn1 hn2 h0 w h).mono ?_
 rintro e w' ⟨⟨v, o, rfl, h1, -⟩, hb⟩
 obtain ⟨rfl, g⟩ := h1 hf
 exact ⟨⟨v, rfl, g⟩, hb⟩
theorem frFloor_lit (va : Value) (p : Rat) (z : Int) (hz : p.num / (p.den : Int) = z) (hp : Fz 256 256 p) (w : World) (h : Fra w va p) :
  Calls Tryz.prog 78 #[va] w fun e w' => (∃ v, e = .returned (.tuple #[v, .int .i64 0]) ∧ Num w' v z) ∧ Below w.heap.size w w' := by
 subst hz
 obtain ⟨b, a, k, c, b', a', k', c', rfl⟩ := h.opened
 exact frFloor_ok b a k c b' a' k' c' p hp w h
theorem frCeil_lit (va : Value) (p : Rat) (z : Int) (hz : (if p.num % (p.den : Int) = 0 then p.num / (p.den : Int) else p.num / (p.den : Int) + 1) = z) (hp : Fz 256 256 p) (w : World) (h : Fra w va p) :
  Calls Tryz.prog 79 #[va] w fun e w' => (∃ v, e = .returned (.tuple #[v, .int .i64 0]) ∧ Num w' v z) ∧ Below w.heap.size w w' := by
 subst hz
 obtain ⟨b, a, k, c, b', a', k', c', rfl⟩ := h.opened
 by_cases hr : p.num % (p.den : Int) = 0
 · rw [if_pos hr]; exact frCeil_down b a k c b' a' k' c' p hp hr w h
 · rw [if_neg hr]; exact frCeil_up b a k c b' a' k' c' p hp hr w h
theorem frRound_lit (va vb : Value) (p u r : Rat) (m : Nat) (z : Int) (hz : (m : Int) = z) (hr : rnd p u m = r) (hm1 : 1 ≤ m) (hm2 : m ≤ 6) (hp : Fz 256 256 p) (hu : Fz 256 256 u) (hu0 : 0 < u.num) (hf : Fz 256 256 r) (w : World) (h : Fra w va p) (g : Fra w vb u) :
  Calls Tryz.prog 34 #[va, vb, .int .u8 z] w fun e w' => (∃ v, e = .returned (.tuple #[v, .int .i64 0]) ∧ Fra w' v r) ∧ Below w.heap.size w w' := by
 subst hr hz
 obtain ⟨b, a, k, c, b', a', k', c', rfl⟩ := h.opened
 obtain ⟨bx, ax, kx, cx, bx', ax', kx', cx', rfl⟩ := g.opened
 exact frRound_ok p u b a k c b' a' k' c' bx ax kx cx bx' ax' kx' cx' hp hu hu0 m hm1 hm2 hf w h g
theorem is_lit (va : Value) (p : Rat) (n d : Int) (hr : p = Rat.divInt n d) (h1 : -9223372036854775808 ≤ n) (h2 : n ≤ 9223372036854775807) (hd0 : d ≠ 0) (hd2 : d.natAbs < 65536) (w : World) (h : Fra w va p) :
  Calls Tryz.prog 80 #[va, .int .i64 0, .int .i64 n, .int .i64 d] w fun e w' => e = .returned (.bool true) ∧ Below w.heap.size w w' := by
 obtain ⟨b, a, k, c, b', a', k', c', rfl⟩ := h.opened
 have := is_ok b a k c b' a' k' c' p n d h1 h2 hd0 hd2 w h
 rwa [decide_eq_true hr] at this
theorem quick_lit (n d : Int) (r : Rat) (hr : Rat.divInt n d = r) (h1 : -9223372036854775808 ≤ n) (h2 : n ≤ 9223372036854775807) (hd0 : d ≠ 0) (hd2 : d.natAbs < 65536) (w : World) :
  Calls Tryz.prog 38 #[.int .i64 n, .int .i64 d] w fun e w' => (∃ v, e = .returned v ∧ Fra w' v r) ∧ Below w.heap.size w w' := by
 subst hr
 exact quick_any n d h1 h2 hd0 hd2 w
theorem ref2Same_lit (va vb : Value) (p q : Rat) (r : Bool) (hr : decide (p = q) = r) (w : World) (h : Fra w va p) (g : Fra w vb q) :
  Calls Tryz.prog 29 #[va, vb] w fun e w' => e = .returned (.bool r) ∧ Below w.heap.size w w' := by
 have := ref2Same_fra va vb p q w h g
 rwa [hr] at this
theorem refFromInt_num (n : Int) (h1 : -9223372036854775808 ≤ n) (h2 : n ≤ 9223372036854775807) (w : World) :
  Calls Tryz.prog 20 #[.int .i64 n] w fun e w' => (∃ v, e = .returned v ∧ Num w' v n) ∧ Below w.heap.size w w' :=
 (refFromInt_any n h1 h2 w).mono fun _ _ ⟨⟨v, he, q⟩, hb⟩ => ⟨⟨v, he, q.num⟩, hb⟩
theorem refSame_lit (va vb : Value) (p q : Int) (r : Bool) (hr : decide (p = q) = r) (w : World) (h : Num w va p) (g : Num w vb q) :
  Calls Tryz.prog 10 #[va, vb] w fun e w' => e = .returned (.bool r) ∧ Below w.heap.size w w' := by
 have := refSame_num va vb p q w h g
 rwa [hr] at this
theorem Fz.small (r : Rat) (h1 : r.num.natAbs < 65536) (h2 : r.den < 65536) : Fz 1 1 r := ⟨Sz.small h1, Sz.small (by rw [Int.natAbs_natCast]; exact h2)⟩
end Go.Proofs.YtmbcnfogjncdaaaGreat
