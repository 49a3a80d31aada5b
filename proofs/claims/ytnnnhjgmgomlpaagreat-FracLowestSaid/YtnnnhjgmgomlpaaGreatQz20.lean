/- A part of the proofs about fractions. -/
import Derived.Deep.DeepCutAuto
import Derived.RegionTactic
import Derived.Shelf.Strconv.Itoa0
import Derived.Shelf.Strings.Cut
import Derived.Shelf.Strings.Prefix
import Derived.Shelf.Strings.Search1
import Derived.Shelf.Strings.Search2
import Derived.Test.YtnnnhjgmgomlpaaGreatProg
import Derived.Test.YtnnnhjgmgomlpaaGreatQz1
import Derived.Test.YtnnnhjgmgomlpaaGreatQz12
import Derived.Test.YtnnnhjgmgomlpaaGreatQz19
namespace Go.Proofs.YtnnnhjgmgomlpaaGreat
open Go.RowKit Wh
theorem fra_same (p q : Rat) : (decide (decide (p.num < 0) = decide (q.num < 0) ∧ dig p.num.natAbs = dig q.num.natAbs) && decide (false = false ∧ dig p.den = dig q.den)) = decide (p = q) := by
  have hn : (decide (p.num < 0) = decide (q.num < 0) ∧ dig p.num.natAbs = dig q.num.natAbs) ↔ p.num = q.num := by
    constructor
    · rintro ⟨h1, h2⟩
      have h3 : p.num.natAbs = q.num.natAbs := by rw [← val_dig p.num.natAbs, h2, val_dig]
      rw [decide_eq_decide] at h1
      omega
    · intro h; rw [h]; exact ⟨rfl, rfl⟩
  have hd : (false = false ∧ dig p.den = dig q.den) ↔ p.den = q.den := by
    constructor
    · rintro ⟨-, h2⟩; rw [← val_dig p.den, h2, val_dig]
    · intro h; rw [h]; exact ⟨rfl, rfl⟩
  rw [← Bool.decide_and, decide_eq_decide, hn, hd]
  constructor
  · rintro ⟨h1, h2⟩; exact Fq.ext h1 h2
  · intro h; rw [h]; exact ⟨rfl, rfl⟩
set_option maxRecDepth 100000 in
set_option maxHeartbeats 1000000 in
theorem frSame_t (bx : Bool) (ax : Option Addr) (kx cx : Nat) (dx : Bool) (ex : Option Addr) (lx mx : Nat) (bY : Bool) (ay : Option Addr) (ky cy : Nat) (dy : Bool) (ey : Option Addr) (ly my : Nat) (l1 l1d l2 l2d : List Nat) (hv : decide (bx = bY ∧ l1 = l2) = true) (w : World) (i1 : Lim w (.slice ax kx cx) l1) (i1d : Lim w (.slice ex lx mx) l1d) (i2 : Lim w (.slice ay ky cy) l2) (i2d : Lim w (.slice ey ly my) l2d) :
    Calls Tryz.prog 53 #[.agg #[.bool bx, .slice ax kx cx, .bool dx, .slice ex lx mx], .agg #[.bool bY, .slice ay ky cy, .bool dy, .slice ey ly my]] w fun e w' => e = .returned (.bool (decide (dx = dy ∧ l1d = l2d))) ∧ Below w.heap.size w w' := by
  have h1 := fun W (hW : Below w.heap.size w W) => Same_any bx _ l1 bY _ l2 W (i1.below hW (Nat.le_refl _)) (i2.below hW (Nat.le_refl _))
  rw [hv] at h1
  have H1 := Lib.hid h1
  have H2 := Lib.hid (fun W (hW : Below w.heap.size w W) => Same_any dx _ l1d dy _ l2d W (i1d.below hW (Nat.le_refl _)) (i2d.below hW (Nat.le_refl _)))
  clear h1 hv i1 i2 i1d i2d
  have hB := Below.refl w.heap.size w
  obtain ⟨al, xa, hN⟩ := mk hB #[.bool bx, .slice ax kx cx, .bool dx, .slice ex lx mx] 26
  replace hB := hN
  clear al hN
  try simp only [World.size_alloc] at xa
  obtain ⟨al, xb, hN⟩ := mk hB #[.bool bY, .slice ay ky cy, .bool dy, .slice ey ly my] 26
  replace xa := xa.on al
  replace hB := hN
  clear al hN
  try simp only [World.size_alloc] at xb
  have pa := xa.all4
  have pb := xb.all4
  go_enter Tryz.func53, Tryz.ntmps53
  go_wp2_with fail
  clear pa pb
  refine (H1.out _ hB).mono ?_
  rintro e w1 ⟨rfl, hb⟩
  replace xa := xa.on hb
  replace xb := xb.on hb
  have hz1 := hb.size
  try simp at hz1
  replace hB := hB.trans (hb.mono hB.size)
  clear hb
  have pa := xa.all4
  have pb := xb.all4
  go_wp2_with fail
  clear pa pb
  refine (H2.out _ hB).mono ?_
  rintro e w2 ⟨rfl, hb⟩
  replace xa := xa.on hb
  replace xb := xb.on hb
  have hz2 := hb.size
  try simp at hz2
  replace hB := hB.trans (hb.mono hB.size)
  clear hb
  have HB := Lib.hid hB
  clear hB xa xb
  go_wp2
  go_ret
  exact ⟨by show Ending.returned (Value.bool (decide (dx = dy) && decide (l1d = l2d))) = _; rw [Bool.decide_and], HB.out⟩
set_option maxRecDepth 100000 in
set_option maxHeartbeats 1000000 in
theorem frSame_f (bx : Bool) (ax : Option Addr) (kx cx : Nat) (dx : Bool) (ex : Option Addr) (lx mx : Nat) (bY : Bool) (ay : Option Addr) (ky cy : Nat) (dy : Bool) (ey : Option Addr) (ly my : Nat) (l1 l1d l2 l2d : List Nat) (hv : decide (bx = bY ∧ l1 = l2) = false) (w : World) (i1 : Lim w (.slice ax kx cx) l1) (_i1d : Lim w (.slice ex lx mx) l1d) (i2 : Lim w (.slice ay ky cy) l2) (_i2d : Lim w (.slice ey ly my) l2d) :
    Calls Tryz.prog 53 #[.agg #[.bool bx, .slice ax kx cx, .bool dx, .slice ex lx mx], .agg #[.bool bY, .slice ay ky cy, .bool dy, .slice ey ly my]] w fun e w' => e = .returned (.bool (false)) ∧ Below w.heap.size w w' := by
  have h1 := fun W (hW : Below w.heap.size w W) => Same_any bx _ l1 bY _ l2 W (i1.below hW (Nat.le_refl _)) (i2.below hW (Nat.le_refl _))
  rw [hv] at h1
  have H1 := Lib.hid h1
  clear h1 hv i1 i2
  have hB := Below.refl w.heap.size w
  obtain ⟨al, xa, hN⟩ := mk hB #[.bool bx, .slice ax kx cx, .bool dx, .slice ex lx mx] 26
  replace hB := hN
  clear al hN
  try simp only [World.size_alloc] at xa
  obtain ⟨al, xb, hN⟩ := mk hB #[.bool bY, .slice ay ky cy, .bool dy, .slice ey ly my] 26
  replace xa := xa.on al
  replace hB := hN
  clear al hN
  try simp only [World.size_alloc] at xb
  have pa := xa.all4
  have pb := xb.all4
  go_enter Tryz.func53, Tryz.ntmps53
  go_wp2_with fail
  clear pa pb
  refine (H1.out _ hB).mono ?_
  rintro e w1 ⟨rfl, hb⟩
  replace xa := xa.on hb
  replace xb := xb.on hb
  have hz1 := hb.size
  try simp at hz1
  replace hB := hB.trans (hb.mono hB.size)
  clear hb
  have HB := Lib.hid hB
  clear hB xa xb
  go_wp2
  go_ret
  exact ⟨rfl, HB.out⟩
theorem frSame_raw (bx : Bool) (ax : Option Addr) (kx cx : Nat) (dx : Bool) (ex : Option Addr) (lx mx : Nat) (bY : Bool) (ay : Option Addr) (ky cy : Nat) (dy : Bool) (ey : Option Addr) (ly my : Nat) (l1 l1d l2 l2d : List Nat) (w : World) (i1 : Lim w (.slice ax kx cx) l1) (i1d : Lim w (.slice ex lx mx) l1d) (i2 : Lim w (.slice ay ky cy) l2) (i2d : Lim w (.slice ey ly my) l2d) :
    Calls Tryz.prog 53 #[.agg #[.bool bx, .slice ax kx cx, .bool dx, .slice ex lx mx], .agg #[.bool bY, .slice ay ky cy, .bool dy, .slice ey ly my]] w fun e w' => e = .returned (.bool (decide (bx = bY ∧ l1 = l2) && decide (dx = dy ∧ l1d = l2d))) ∧ Below w.heap.size w w' := by
  cases hv : decide (bx = bY ∧ l1 = l2) with
  | true => rw [Bool.true_and]; exact frSame_t bx ax kx cx dx ex lx mx bY ay ky cy dy ey ly my l1 l1d l2 l2d hv w i1 i1d i2 i2d
  | false => rw [Bool.false_and]; exact frSame_f bx ax kx cx dx ex lx mx bY ay ky cy dy ey ly my l1 l1d l2 l2d hv w i1 i1d i2 i2d
theorem frSame_fra (va vb : Value) (p q : Rat) (w : World) (h : Fra w va p) (g : Fra w vb q) :
    Calls Tryz.prog 53 #[va, vb] w fun e w' => e = .returned (.bool (decide (p = q))) ∧ Below w.heap.size w w' := by
  obtain ⟨s, s', rfl, h1, h2⟩ := h
  obtain ⟨t, t', rfl, g1, g2⟩ := g
  obtain ⟨a, c, rfl⟩ := lim_slice h1
  obtain ⟨a', c', rfl⟩ := lim_slice h2
  obtain ⟨d, e, rfl⟩ := lim_slice g1
  obtain ⟨d', e', rfl⟩ := lim_slice g2
  have := frSame_raw (decide (p.num < 0)) _ _ _ false _ _ _ (decide (q.num < 0)) _ _ _ false _ _ _ _ _ _ _ w h1 h2 g1 g2
  rwa [fra_same] at this
set_option maxRecDepth 100000 in
set_option maxHeartbeats 1000000 in
theorem ref2Same_t (bx : Bool) (ax : Option Addr) (kx cx : Nat) (dx : Bool) (ex : Option Addr) (lx mx : Nat) (bY : Bool) (ay : Option Addr) (ky cy : Nat) (dy : Bool) (ey : Option Addr) (ly my : Nat) (l1 l1d l2 l2d : List Nat) (hv : decide (bx = bY ∧ l1 = l2) = true) (w : World) (i1 : Lim w (.slice ax kx cx) l1) (i1d : Lim w (.slice ex lx mx) l1d) (i2 : Lim w (.slice ay ky cy) l2) (i2d : Lim w (.slice ey ly my) l2d) :
    Calls Tryz.prog 22 #[.agg #[.bool bx, .slice ax kx cx, .bool dx, .slice ex lx mx], .agg #[.bool bY, .slice ay ky cy, .bool dy, .slice ey ly my]] w fun e w' => e = .returned (.bool (decide (dx = dy ∧ l1d = l2d))) ∧ Below w.heap.size w w' := by
  have h1 := fun W (hW : Below w.heap.size w W) => refSame_any bx _ l1 bY _ l2 W (i1.below hW (Nat.le_refl _)) (i2.below hW (Nat.le_refl _))
  rw [hv] at h1
  have H1 := Lib.hid h1
  have H2 := Lib.hid (fun W (hW : Below w.heap.size w W) => refSame_any dx _ l1d dy _ l2d W (i1d.below hW (Nat.le_refl _)) (i2d.below hW (Nat.le_refl _)))
  clear h1 hv i1 i2 i1d i2d
  have hB := Below.refl w.heap.size w
  obtain ⟨al, xa, hN⟩ := mk hB #[.bool bx, .slice ax kx cx, .bool dx, .slice ex lx mx] 26
  replace hB := hN
  clear al hN
  try simp only [World.size_alloc] at xa
  obtain ⟨al, xb, hN⟩ := mk hB #[.bool bY, .slice ay ky cy, .bool dy, .slice ey ly my] 26
  replace xa := xa.on al
  replace hB := hN
  clear al hN
  try simp only [World.size_alloc] at xb
  have pa := xa.all4
  have pb := xb.all4
  go_enter Tryz.func22, Tryz.ntmps22
  go_wp2_with fail
  clear pa pb
  refine (H1.out _ hB).mono ?_
  rintro e w1 ⟨rfl, hb⟩
  replace xa := xa.on hb
  replace xb := xb.on hb
  have hz1 := hb.size
  try simp at hz1
  replace hB := hB.trans (hb.mono hB.size)
  clear hb
  have pa := xa.all4
  have pb := xb.all4
  go_wp2_with fail
  clear pa pb
  refine (H2.out _ hB).mono ?_
  rintro e w2 ⟨rfl, hb⟩
  replace xa := xa.on hb
  replace xb := xb.on hb
  have hz2 := hb.size
  try simp at hz2
  replace hB := hB.trans (hb.mono hB.size)
  clear hb
  have HB := Lib.hid hB
  clear hB xa xb
  go_wp2
  go_ret
  exact ⟨by show Ending.returned (Value.bool (decide (dx = dy) && decide (l1d = l2d))) = _; rw [Bool.decide_and], HB.out⟩
set_option maxRecDepth 100000 in
set_option maxHeartbeats 1000000 in
theorem ref2Same_f (bx : Bool) (ax : Option Addr) (kx cx : Nat) (dx : Bool) (ex : Option Addr) (lx mx : Nat) (bY : Bool) (ay : Option Addr) (ky cy : Nat) (dy : Bool) (ey : Option Addr) (ly my : Nat) (l1 l1d l2 l2d : List Nat) (hv : decide (bx = bY ∧ l1 = l2) = false) (w : World) (i1 : Lim w (.slice ax kx cx) l1) (_i1d : Lim w (.slice ex lx mx) l1d) (i2 : Lim w (.slice ay ky cy) l2) (_i2d : Lim w (.slice ey ly my) l2d) :
    Calls Tryz.prog 22 #[.agg #[.bool bx, .slice ax kx cx, .bool dx, .slice ex lx mx], .agg #[.bool bY, .slice ay ky cy, .bool dy, .slice ey ly my]] w fun e w' => e = .returned (.bool (false)) ∧ Below w.heap.size w w' := by
  have h1 := fun W (hW : Below w.heap.size w W) => refSame_any bx _ l1 bY _ l2 W (i1.below hW (Nat.le_refl _)) (i2.below hW (Nat.le_refl _))
  rw [hv] at h1
  have H1 := Lib.hid h1
  clear h1 hv i1 i2
  have hB := Below.refl w.heap.size w
  obtain ⟨al, xa, hN⟩ := mk hB #[.bool bx, .slice ax kx cx, .bool dx, .slice ex lx mx] 26
  replace hB := hN
  clear al hN
  try simp only [World.size_alloc] at xa
  obtain ⟨al, xb, hN⟩ := mk hB #[.bool bY, .slice ay ky cy, .bool dy, .slice ey ly my] 26
  replace xa := xa.on al
  replace hB := hN
  clear al hN
  try simp only [World.size_alloc] at xb
  have pa := xa.all4
  have pb := xb.all4
  go_enter Tryz.func22, Tryz.ntmps22
  go_wp2_with fail
  clear pa pb
  refine (H1.out _ hB).mono ?_
  rintro e w1 ⟨rfl, hb⟩
  replace xa := xa.on hb
  replace xb := xb.on hb
  have hz1 := hb.size
  try simp at hz1
  replace hB := hB.trans (hb.mono hB.size)
  clear hb
  have HB := Lib.hid hB
  clear hB xa xb
  go_wp2
  go_ret
  exact ⟨rfl, HB.out⟩
theorem ref2Same_raw (bx : Bool) (ax : Option Addr) (kx cx : Nat) (dx : Bool) (ex : Option Addr) (lx mx : Nat) (bY : Bool) (ay : Option Addr) (ky cy : Nat) (dy : Bool) (ey : Option Addr) (ly my : Nat) (l1 l1d l2 l2d : List Nat) (w : World) (i1 : Lim w (.slice ax kx cx) l1) (i1d : Lim w (.slice ex lx mx) l1d) (i2 : Lim w (.slice ay ky cy) l2) (i2d : Lim w (.slice ey ly my) l2d) :
    Calls Tryz.prog 22 #[.agg #[.bool bx, .slice ax kx cx, .bool dx, .slice ex lx mx], .agg #[.bool bY, .slice ay ky cy, .bool dy, .slice ey ly my]] w fun e w' => e = .returned (.bool (decide (bx = bY ∧ l1 = l2) && decide (dx = dy ∧ l1d = l2d))) ∧ Below w.heap.size w w' := by
  cases hv : decide (bx = bY ∧ l1 = l2) with
  | true => rw [Bool.true_and]; exact ref2Same_t bx ax kx cx dx ex lx mx bY ay ky cy dy ey ly my l1 l1d l2 l2d hv w i1 i1d i2 i2d
  | false => rw [Bool.false_and]; exact ref2Same_f bx ax kx cx dx ex lx mx bY ay ky cy dy ey ly my l1 l1d l2 l2d hv w i1 i1d i2 i2d
theorem ref2Same_fra (va vb : Value) (p q : Rat) (w : World) (h : Fra w va p) (g : Fra w vb q) :
    Calls Tryz.prog 22 #[va, vb] w fun e w' => e = .returned (.bool (decide (p = q))) ∧ Below w.heap.size w w' := by
  obtain ⟨s, s', rfl, h1, h2⟩ := h
  obtain ⟨t, t', rfl, g1, g2⟩ := g
  obtain ⟨a, c, rfl⟩ := lim_slice h1
  obtain ⟨a', c', rfl⟩ := lim_slice h2
  obtain ⟨d, e, rfl⟩ := lim_slice g1
  obtain ⟨d', e', rfl⟩ := lim_slice g2
  have := ref2Same_raw (decide (p.num < 0)) _ _ _ false _ _ _ (decide (q.num < 0)) _ _ _ false _ _ _ _ _ _ _ w h1 h2 g1 g2
  rwa [fra_same] at this
set_option maxRecDepth 100000 in
set_option maxHeartbeats 4000000 in
theorem frCmp_ok (p q : Rat) (bx : Bool) (ax : Option Addr) (kx cx : Nat) (dx : Bool) (ex : Option Addr) (lx mx : Nat) (bY : Bool) (ay : Option Addr) (ky cy : Nat) (dy : Bool) (ey : Option Addr) (ly my : Nat) (hp : Fz 256 256 p) (hq : Fz 256 256 q) (w : World) (fx : Fra w (.agg #[.bool bx, .slice ax kx cx, .bool dx, .slice ex lx mx]) p) (fy : Fra w (.agg #[.bool bY, .slice ay ky cy, .bool dy, .slice ey ly my]) q) :
    Calls Tryz.prog 52 #[.agg #[.bool bx, .slice ax kx cx, .bool dx, .slice ex lx mx], .agg #[.bool bY, .slice ay ky cy, .bool dy, .slice ey ly my]] w fun e w' => e = .returned (.int .i64 (cmpI (p.num * q.den) (q.num * p.den))) ∧ Below w.heap.size w w' := by
  have HV1 := Lib.hid (fun W (hW : Below w.heap.size w W) => valid_ok (.agg #[.bool bx, .slice ax kx cx, .bool dx, .slice ex lx mx]) p hp W (fx.below hW (Nat.le_refl _)))
  have HV2 := Lib.hid (fun W (hW : Below w.heap.size w W) => valid_ok (.agg #[.bool bY, .slice ay ky cy, .bool dy, .slice ey ly my]) q hq W (fy.below hW (Nat.le_refl _)))
  obtain ⟨-, -, nx, dnx⟩ := fra_nums fx
  obtain ⟨-, -, ny, dny⟩ := fra_nums fy
  obtain ⟨h1, h1d⟩ := hp
  obtain ⟨h2, h2d⟩ := hq
  have HT1 := Lib.hid (fun W (hW : Below w.heap.size w W) => frtimes_any (.agg #[.bool bx, .slice ax kx cx]) (.agg #[.bool dy, .slice ey ly my]) p.num q.den _ rfl (h1.mono (by decide)) (h2d.mono (by decide)) ((Sz.mul h1 h2d).mono (by decide)) W (nx.below hW (Nat.le_refl _)) (dny.below hW (Nat.le_refl _)))
  have HT2 := Lib.hid (fun W (hW : Below w.heap.size w W) => frtimes_any (.agg #[.bool bY, .slice ay ky cy]) (.agg #[.bool dx, .slice ex lx mx]) q.num p.den _ rfl (h2.mono (by decide)) (h1d.mono (by decide)) ((Sz.mul h2 h1d).mono (by decide)) W (ny.below hW (Nat.le_refl _)) (dnx.below hW (Nat.le_refl _)))
  have HC := Lib.hid (fun va vb W h g => Cmp_any va vb (p.num * q.den) (q.num * p.den) ((Sz.mul h1 h2d).mono (by decide)) ((Sz.mul h2 h1d).mono (by decide)) W h g)
  clear fx fy h1 h1d h2 h2d nx dnx ny dny
  have hB := Below.refl w.heap.size w
  obtain ⟨al, xa, hN⟩ := mk hB #[.bool bx, .slice ax kx cx, .bool dx, .slice ex lx mx] 26
  replace hB := hN
  clear al hN
  try simp only [World.size_alloc] at xa
  obtain ⟨al, xb, hN⟩ := mk hB #[.bool bY, .slice ay ky cy, .bool dy, .slice ey ly my] 26
  replace xa := xa.on al
  replace hB := hN
  clear al hN
  try simp only [World.size_alloc] at xb
  go_enter Tryz.func52, Tryz.ntmps52
  go_upto_region 1 with fail
  have xa1 := xa
  obtain ⟨W0, hW0⟩ : ∃ W, W = ((w.alloc (.cells #[.bool bx, .slice ax kx cx, .bool dx, .slice ex lx mx] 26)).alloc (.cells #[.bool bY, .slice ay ky cy, .bool dy, .slice ey ly my] 26)) := ⟨_, rfl⟩
  rw [← hW0] at hB xa xb ⊢
  clear hW0
  have q0 := xa.lt
  have q1 := xb.lt
  have a0 := xa.cell 0
  have b0 := xb.cell 0
  have a1 := xa.cell 1
  have b1 := xb.cell 1
  have a2 := xa.cell 2
  have b2 := xb.cell 2
  have a3 := xa.cell 3
  have b3 := xb.cell 3
  simp only [List.getElem?_toArray, List.getElem?_cons_zero, List.getElem?_cons_succ] at a0 a1 a2 a3 b0 b1 b2 b3
  clear xa xb xa1
  go_cut [5, 6] (fun s8 s9 wx => ∃ BX BY : Nat, s8 = .pointer (some ⟨BX, 0, none⟩) ∧ s9 = .pointer (some ⟨BY, 0, none⟩) ∧ Bk wx BX #[.bool bx, .slice ax kx cx, .bool dx, .slice ex lx mx] 85 ∧ Bk wx BY #[.bool bY, .slice ay ky cy, .bool dy, .slice ey ly my] 85 ∧ Below W0.heap.size W0 wx)
  case first =>
    go_region
    all_goals (go_wp2_with fail; go_meet)
    · obtain ⟨t1, t2, t3⟩ := frpair_new W0 #[.bool bx, .slice ax kx cx, .bool dx, .slice ex lx mx] #[.bool bY, .slice ay ky cy, .bool dy, .slice ey ly my] 85
      exact ⟨_, _, rfl, rfl, t1, t2, t3⟩
    · obtain ⟨t1, t2, t3⟩ := frpair_new W0 #[.bool bY, .slice ay ky cy, .bool dy, .slice ey ly my] #[.bool bx, .slice ax kx cx, .bool dx, .slice ex lx mx] 85
      exact ⟨_, _, rfl, rfl, t2, t1, t3⟩
  case rest =>
    obtain ⟨BX, BY, rfl, rfl, xx, xy, hb⟩ := hcut
    replace hB := hB.trans (hb.mono hB.size)
    have hz0 := hb.size
    clear hb q0 q1 a0 a1 a2 a3 b0 b1 b2 b3
    have px := xx.all4
    have py := xy.all4
    go_wp2_with fail
    clear px py
    refine (HV1.out _ hB).mono ?_
    rintro e w1 ⟨rfl, hb⟩
    replace xx := xx.on hb
    replace xy := xy.on hb
    have hz1 := hb.size
    try simp at hz1
    replace hB := hB.trans (hb.mono hB.size)
    clear hb
    have px := xx.all4
    have py := xy.all4
    go_wp2_with fail
    clear px py
    refine (HV2.out _ hB).mono ?_
    rintro e w2 ⟨rfl, hb⟩
    replace xx := xx.on hb
    replace xy := xy.on hb
    have hz2 := hb.size
    try simp at hz2
    replace hB := hB.trans (hb.mono hB.size)
    clear hb
    have px := xx.all4
    have py := xy.all4
    go_wp2_with fail
    clear px py
    have qx := xx.lt
    have qy := xy.lt
    obtain ⟨gx0, gx1, gx2, gx3⟩ := xx.cells4
    obtain ⟨gy0, gy1, gy2, gy3⟩ := xy.cells4
    refine wp_region_noPanic ?_
    refine wp_region_held_drew (S := (fun w' => (w'.cell? ⟨BX, 0, none⟩ = some (.bool bx) ∧ w'.cell? ⟨BX, 1, none⟩ = some (.slice ax kx cx) ∧ w'.cell? ⟨BX, 2, none⟩ = some (.bool dx) ∧ w'.cell? ⟨BX, 3, none⟩ = some (.slice ex lx mx)) ∧ w'.cell? ⟨BY, 0, none⟩ = some (.bool bY) ∧ w'.cell? ⟨BY, 1, none⟩ = some (.slice ay ky cy) ∧ w'.cell? ⟨BY, 2, none⟩ = some (.bool dy) ∧ w'.cell? ⟨BY, 3, none⟩ = some (.slice ey ly my))) (by kernel_rfl) ⟨⟨gx0, gx1, gx2, gx3⟩, ⟨gy0, gy1, gy2, gy3⟩⟩ (fun hR0 => ?_)
    change wpAnyH _ _ _ _ _ 16 #[false, false, false, false, false, false, false, false, false, false, false, false, false, false, false, false] _ _
    clear gx0 gx1 gx2 gx3 gy0 gy1 gy2 gy3
    refine tk (i := 0) (v := ?_) rfl (by kernel_rfl) (fun _ _ _ h => h) (by rfl) ?_ (by assumption) ?_
    rotate_left 1
    · (intro w hSw; (try dsimp only at hSw); go_simp <;> (with_reducible rfl))
    (try simp only [Act.put, sa, List.set])
    refine tk (i := 1) (v := ?_) rfl (by kernel_rfl) (fun _ _ _ h => h) (by rfl) ?_ (by assumption) ?_
    rotate_left 1
    · (intro w hSw; (try dsimp only at hSw); go_simp <;> (with_reducible rfl))
    (try simp only [Act.put, sa, List.set])
    refine tk (i := 2) (v := ?_) rfl (by kernel_rfl) (fun _ _ _ h => h) (by rfl) ?_ (by assumption) ?_
    rotate_left 1
    · (intro w hSw; (try dsimp only at hSw); go_simp <;> (with_reducible rfl))
    (try simp only [Act.put, sa, List.set])
    refine tk (i := 3) (v := ?_) rfl (by kernel_rfl) (fun _ _ _ h => h) (by rfl) ?_ (by assumption) ?_
    rotate_left 1
    · (intro w hSw; (try dsimp only at hSw); go_simp <;> (with_reducible rfl))
    (try simp only [Act.put, sa, List.set])
    refine tk (i := 4) (v := ?_) rfl (by kernel_rfl) (fun _ _ _ h => h) (by rfl) ?_ (by assumption) ?_
    rotate_left 1
    · (intro w hSw; (try dsimp only at hSw); go_simp <;> (with_reducible rfl))
    (try simp only [Act.put, sa, List.set])
    refine tk (i := 5) (v := ?_) rfl (by kernel_rfl) (fun _ _ _ h => h) (by rfl) ?_ (by assumption) ?_
    rotate_left 1
    · (intro w hSw; (try dsimp only at hSw); go_simp <;> (with_reducible rfl))
    (try simp only [Act.put, sa, List.set])
    refine tk (i := 7) (v := ?_) rfl (by kernel_rfl) (fun _ _ _ h => h) (by rfl) ?_ (by assumption) ?_
    rotate_left 1
    · (intro w hSw; (try dsimp only at hSw); go_simp <;> (with_reducible rfl))
    (try simp only [Act.put, sa, List.set])
    refine tk (i := 8) (v := ?_) rfl (by kernel_rfl) (fun _ _ _ h => h) (by rfl) ?_ (by assumption) ?_
    rotate_left 1
    · (intro w hSw; (try dsimp only at hSw); go_simp <;> (with_reducible rfl))
    (try simp only [Act.put, sa, List.set])
    refine tk (i := 9) (v := ?_) rfl (by kernel_rfl) (fun _ _ _ h => h) (by rfl) ?_ (by assumption) ?_
    rotate_left 1
    · (intro w hSw; (try dsimp only at hSw); go_simp <;> (with_reducible rfl))
    (try simp only [Act.put, sa, List.set])
    refine tk (i := 10) (v := ?_) rfl (by kernel_rfl) (fun _ _ _ h => h) (by rfl) ?_ (by assumption) ?_
    rotate_left 1
    · (intro w hSw; (try dsimp only at hSw); go_simp <;> (with_reducible rfl))
    (try simp only [Act.put, sa, List.set])
    refine tk (i := 11) (v := ?_) rfl (by kernel_rfl) (fun _ _ _ h => h) (by rfl) ?_ (by assumption) ?_
    rotate_left 1
    · (intro w hSw; (try dsimp only at hSw); go_simp <;> (with_reducible rfl))
    (try simp only [Act.put, sa, List.set])
    refine tk (i := 12) (v := ?_) rfl (by kernel_rfl) (fun _ _ _ h => h) (by rfl) ?_ (by assumption) ?_
    rotate_left 1
    · (intro w hSw; (try dsimp only at hSw); go_simp <;> (with_reducible rfl))
    (try simp only [Act.put, sa, List.set])
    refine rd1 (i := 6) (by kernel_rfl) rfl (fun K hK => ?_)
    go_simp
    go_at_call 95; have hBd := hB.drew; refine (HT1.out _ hBd).mono ?_; rintro e w3 ⟨⟨v1, rfl, t1⟩, hb⟩; replace hb := (Below.refl w2.heap.size w2).drew.trans hb; obtain ⟨b1, a1, k1, c1, rfl⟩ := t1.num.opened; replace xx := xx.on hb; replace xy := xy.on hb; replace hB := hB.trans (hb.mono hB.size); have hz3 := hb.size
    (try go_wp2_with fail)
    refine hK.out _ _ (⟨keep4 hb qx hR0.1, keep4 hb qy hR0.2⟩) (fun hR1 => ?_)
    clear hK K hR0
    (try simp only [Act.put, sa, List.set])
    replace qx := Nat.lt_of_lt_of_le qx hz3
    replace qy := Nat.lt_of_lt_of_le qy hz3
    clear hb hBd
    refine rd1 (i := 13) (by kernel_rfl) rfl (fun K hK => ?_)
    go_simp
    go_at_call 95; have hBd := hB; refine (HT2.out _ hBd).mono ?_; rintro e w4 ⟨⟨v2, rfl, t2⟩, hb⟩; obtain ⟨b2, a2, k2, c2, rfl⟩ := t2.num.opened; replace xx := xx.on hb; replace xy := xy.on hb; replace t1 := t1.below hb; replace hB := hB.trans (hb.mono hB.size); have hz4 := hb.size
    (try go_wp2_with fail)
    refine hK.out _ _ (⟨keep4 hb qx hR1.1, keep4 hb qy hR1.2⟩) (fun hR2 => ?_)
    clear hK K hR1
    (try simp only [Act.put, sa, List.set])
    replace qx := Nat.lt_of_lt_of_le qx hz4
    replace qy := Nat.lt_of_lt_of_le qy hz4
    clear hb hBd
    refine rd1 (i := 14) (by kernel_rfl) rfl (fun K hK => ?_)
    go_simp
    go_at_call 113; have hBd := hB; refine (HC.out _ _ _ t1.num t2.num).mono ?_; rintro e w5 ⟨rfl, hb⟩; replace xx := xx.on hb; replace xy := xy.on hb; replace hB := hB.trans (hb.mono hB.size); have hz5 := hb.size
    (try go_wp2_with fail)
    refine hK.out _ _ (⟨keep4 hb qx hR2.1, keep4 hb qy hR2.2⟩) (fun hR3 => ?_)
    clear hK K hR2
    (try simp only [Act.put, sa, List.set])
    replace qx := Nat.lt_of_lt_of_le qx hz5
    replace qy := Nat.lt_of_lt_of_le qy hz5
    clear hb hBd
    refine tk (i := 15) (v := ?_) rfl (by kernel_rfl) (fun _ _ _ h => h) (by rfl) ?_ (by assumption) ?_
    rotate_left 1
    · (intro w hSw; (try dsimp only at hSw); go_simp <;> (with_reducible rfl))
    (try simp only [Act.put, sa, List.set])
    refine wpAnyH_done (by kernel_rfl) ?_ _
    refine NoPanic.normal ?_
    clear hR3
    clear qx qy
    have HB := Lib.hid hB
    clear hB xx xy
    go_wp2
    go_ret
    exact ⟨rfl, HB.out⟩
set_option maxRecDepth 100000 in
set_option maxHeartbeats 4000000 in
theorem frCmp_bad1 (bx : Bool) (ax : Option Addr) (kx cx : Nat) (dx : Bool) (ex : Option Addr) (lx mx : Nat) (bY : Bool) (ay : Option Addr) (ky cy : Nat) (dy : Bool) (ey : Option Addr) (ly my : Nat) (l1 l1d : List Nat) (e1 : fvld bx l1 dx l1d = false) (w : World) (i1 : Lim w (.slice ax kx cx) l1) (m1 : Lm l1) (i1d : Lim w (.slice ex lx mx) l1d) (m1d : Lm l1d) :
    Calls Tryz.prog 52 #[.agg #[.bool bx, .slice ax kx cx, .bool dx, .slice ex lx mx], .agg #[.bool bY, .slice ay ky cy, .bool dy, .slice ey ly my]] w fun e w' => e = .returned (.int .i64 (0)) ∧ Below w.heap.size w w' := by
  have h1 := fun W (hW : Below w.heap.size w W) => valid_raw bx _ _ _ l1 dx _ _ _ l1d W (i1.below hW (Nat.le_refl _)) m1 (i1d.below hW (Nat.le_refl _)) m1d
  rw [e1] at h1
  have HV1 := Lib.hid h1
  clear i1 m1 i1d m1d h1 e1
  have hB := Below.refl w.heap.size w
  obtain ⟨al, xa, hN⟩ := mk hB #[.bool bx, .slice ax kx cx, .bool dx, .slice ex lx mx] 26
  replace hB := hN
  clear al hN
  try simp only [World.size_alloc] at xa
  obtain ⟨al, xb, hN⟩ := mk hB #[.bool bY, .slice ay ky cy, .bool dy, .slice ey ly my] 26
  replace xa := xa.on al
  replace hB := hN
  clear al hN
  try simp only [World.size_alloc] at xb
  go_enter Tryz.func52, Tryz.ntmps52
  go_upto_region 1 with fail
  have xa1 := xa
  obtain ⟨W0, hW0⟩ : ∃ W, W = ((w.alloc (.cells #[.bool bx, .slice ax kx cx, .bool dx, .slice ex lx mx] 26)).alloc (.cells #[.bool bY, .slice ay ky cy, .bool dy, .slice ey ly my] 26)) := ⟨_, rfl⟩
  rw [← hW0] at hB xa xb ⊢
  clear hW0
  have q0 := xa.lt
  have q1 := xb.lt
  have a0 := xa.cell 0
  have b0 := xb.cell 0
  have a1 := xa.cell 1
  have b1 := xb.cell 1
  have a2 := xa.cell 2
  have b2 := xb.cell 2
  have a3 := xa.cell 3
  have b3 := xb.cell 3
  simp only [List.getElem?_toArray, List.getElem?_cons_zero, List.getElem?_cons_succ] at a0 a1 a2 a3 b0 b1 b2 b3
  clear xa xb xa1
  go_cut [5, 6] (fun s8 s9 wx => ∃ BX BY : Nat, s8 = .pointer (some ⟨BX, 0, none⟩) ∧ s9 = .pointer (some ⟨BY, 0, none⟩) ∧ Bk wx BX #[.bool bx, .slice ax kx cx, .bool dx, .slice ex lx mx] 85 ∧ Bk wx BY #[.bool bY, .slice ay ky cy, .bool dy, .slice ey ly my] 85 ∧ Below W0.heap.size W0 wx)
  case first =>
    go_region
    all_goals (go_wp2_with fail; go_meet)
    · obtain ⟨t1, t2, t3⟩ := frpair_new W0 #[.bool bx, .slice ax kx cx, .bool dx, .slice ex lx mx] #[.bool bY, .slice ay ky cy, .bool dy, .slice ey ly my] 85
      exact ⟨_, _, rfl, rfl, t1, t2, t3⟩
    · obtain ⟨t1, t2, t3⟩ := frpair_new W0 #[.bool bY, .slice ay ky cy, .bool dy, .slice ey ly my] #[.bool bx, .slice ax kx cx, .bool dx, .slice ex lx mx] 85
      exact ⟨_, _, rfl, rfl, t2, t1, t3⟩
  case rest =>
    obtain ⟨BX, BY, rfl, rfl, xx, xy, hb⟩ := hcut
    replace hB := hB.trans (hb.mono hB.size)
    have hz0 := hb.size
    clear hb q0 q1 a0 a1 a2 a3 b0 b1 b2 b3
    have px := xx.all4
    have py := xy.all4
    go_wp2_with fail
    clear px py
    refine (HV1.out _ hB).mono ?_
    rintro e w1 ⟨rfl, hb⟩
    replace xx := xx.on hb
    replace xy := xy.on hb
    have hz1 := hb.size
    try simp at hz1
    replace hB := hB.trans (hb.mono hB.size)
    clear hb
    have HB := Lib.hid hB
    clear hB xx xy
    go_wp2
    go_ret
    exact ⟨rfl, HB.out⟩
set_option maxRecDepth 100000 in
set_option maxHeartbeats 4000000 in
theorem frCmp_bad2 (bx : Bool) (ax : Option Addr) (kx cx : Nat) (dx : Bool) (ex : Option Addr) (lx mx : Nat) (bY : Bool) (ay : Option Addr) (ky cy : Nat) (dy : Bool) (ey : Option Addr) (ly my : Nat) (l1 l1d : List Nat) (e1 : fvld bx l1 dx l1d = true) (l2 l2d : List Nat) (e2 : fvld bY l2 dy l2d = false) (w : World) (i1 : Lim w (.slice ax kx cx) l1) (m1 : Lm l1) (i1d : Lim w (.slice ex lx mx) l1d) (m1d : Lm l1d) (i2 : Lim w (.slice ay ky cy) l2) (m2 : Lm l2) (i2d : Lim w (.slice ey ly my) l2d) (m2d : Lm l2d) :
    Calls Tryz.prog 52 #[.agg #[.bool bx, .slice ax kx cx, .bool dx, .slice ex lx mx], .agg #[.bool bY, .slice ay ky cy, .bool dy, .slice ey ly my]] w fun e w' => e = .returned (.int .i64 (0)) ∧ Below w.heap.size w w' := by
  have h1 := fun W (hW : Below w.heap.size w W) => valid_raw bx _ _ _ l1 dx _ _ _ l1d W (i1.below hW (Nat.le_refl _)) m1 (i1d.below hW (Nat.le_refl _)) m1d
  have h2 := fun W (hW : Below w.heap.size w W) => valid_raw bY _ _ _ l2 dy _ _ _ l2d W (i2.below hW (Nat.le_refl _)) m2 (i2d.below hW (Nat.le_refl _)) m2d
  rw [e1] at h1
  have HV1 := Lib.hid h1
  rw [e2] at h2
  have HV2 := Lib.hid h2
  clear i1 m1 i1d m1d h1 e1 i2 m2 i2d m2d h2 e2
  have hB := Below.refl w.heap.size w
  obtain ⟨al, xa, hN⟩ := mk hB #[.bool bx, .slice ax kx cx, .bool dx, .slice ex lx mx] 26
  replace hB := hN
  clear al hN
  try simp only [World.size_alloc] at xa
  obtain ⟨al, xb, hN⟩ := mk hB #[.bool bY, .slice ay ky cy, .bool dy, .slice ey ly my] 26
  replace xa := xa.on al
  replace hB := hN
  clear al hN
  try simp only [World.size_alloc] at xb
  go_enter Tryz.func52, Tryz.ntmps52
  go_upto_region 1 with fail
  have xa1 := xa
  obtain ⟨W0, hW0⟩ : ∃ W, W = ((w.alloc (.cells #[.bool bx, .slice ax kx cx, .bool dx, .slice ex lx mx] 26)).alloc (.cells #[.bool bY, .slice ay ky cy, .bool dy, .slice ey ly my] 26)) := ⟨_, rfl⟩
  rw [← hW0] at hB xa xb ⊢
  clear hW0
  have q0 := xa.lt
  have q1 := xb.lt
  have a0 := xa.cell 0
  have b0 := xb.cell 0
  have a1 := xa.cell 1
  have b1 := xb.cell 1
  have a2 := xa.cell 2
  have b2 := xb.cell 2
  have a3 := xa.cell 3
  have b3 := xb.cell 3
  simp only [List.getElem?_toArray, List.getElem?_cons_zero, List.getElem?_cons_succ] at a0 a1 a2 a3 b0 b1 b2 b3
  clear xa xb xa1
  go_cut [5, 6] (fun s8 s9 wx => ∃ BX BY : Nat, s8 = .pointer (some ⟨BX, 0, none⟩) ∧ s9 = .pointer (some ⟨BY, 0, none⟩) ∧ Bk wx BX #[.bool bx, .slice ax kx cx, .bool dx, .slice ex lx mx] 85 ∧ Bk wx BY #[.bool bY, .slice ay ky cy, .bool dy, .slice ey ly my] 85 ∧ Below W0.heap.size W0 wx)
  case first =>
    go_region
    all_goals (go_wp2_with fail; go_meet)
    · obtain ⟨t1, t2, t3⟩ := frpair_new W0 #[.bool bx, .slice ax kx cx, .bool dx, .slice ex lx mx] #[.bool bY, .slice ay ky cy, .bool dy, .slice ey ly my] 85
      exact ⟨_, _, rfl, rfl, t1, t2, t3⟩
    · obtain ⟨t1, t2, t3⟩ := frpair_new W0 #[.bool bY, .slice ay ky cy, .bool dy, .slice ey ly my] #[.bool bx, .slice ax kx cx, .bool dx, .slice ex lx mx] 85
      exact ⟨_, _, rfl, rfl, t2, t1, t3⟩
  case rest =>
    obtain ⟨BX, BY, rfl, rfl, xx, xy, hb⟩ := hcut
    replace hB := hB.trans (hb.mono hB.size)
    have hz0 := hb.size
    clear hb q0 q1 a0 a1 a2 a3 b0 b1 b2 b3
    have px := xx.all4
    have py := xy.all4
    go_wp2_with fail
    clear px py
    refine (HV1.out _ hB).mono ?_
    rintro e w1 ⟨rfl, hb⟩
    replace xx := xx.on hb
    replace xy := xy.on hb
    have hz1 := hb.size
    try simp at hz1
    replace hB := hB.trans (hb.mono hB.size)
    clear hb
    have px := xx.all4
    have py := xy.all4
    go_wp2_with fail
    clear px py
    refine (HV2.out _ hB).mono ?_
    rintro e w2 ⟨rfl, hb⟩
    replace xx := xx.on hb
    replace xy := xy.on hb
    have hz2 := hb.size
    try simp at hz2
    replace hB := hB.trans (hb.mono hB.size)
    clear hb
    have HB := Lib.hid hB
    clear hB xx xy
    go_wp2
    go_ret
    exact ⟨rfl, HB.out⟩
end Go.Proofs.YtnnnhjgmgomlpaaGreat
namespace Go.Proofs
open Go.Shelf
def Tryz.lays129_ren : Go.Shelf.Ren := ⟨fun | 129 => 148 | n => n, fun | 53 => 89 | 3 => 3 | 4 => 4 | 46 => 177 | 5 => 5 | 9 => 9 | n => n, fun | n => n⟩
theorem Tryz.lays129 : Go.Proofs.Lays.n129 Tryz.prog Tryz.lays129_ren := {
  mixed := by kernel_rfl
  f129 := Tryz.func148.trans (congrArg some (by kernel_rfl))
  t3 := Tryz.underlying3
  a3 := Tryz.isAgg3
  z3 := Tryz.sizeOf3
  v3 := Tryz.zeroValue3
  t4 := Tryz.underlying4
  a4 := Tryz.isAgg4
  z4 := Tryz.sizeOf4
  v4 := Tryz.zeroValue4
  t5 := Tryz.underlying5
  a5 := Tryz.isAgg5
  z5 := Tryz.sizeOf5
  v5 := Tryz.zeroValue5
  t9 := Tryz.underlying9
  a9 := Tryz.isAgg9
  z9 := Tryz.sizeOf9
  v9 := Tryz.zeroValue9
  t46 := Tryz.underlying177
  a46 := Tryz.isAgg177
  z46 := Tryz.sizeOf177
  v46 := Tryz.zeroValue177
  t53 := Tryz.underlying89
  a53 := Tryz.isAgg89
  z53 := Tryz.sizeOf89
  v53 := Tryz.zeroValue89 }
theorem Tryz.bits_Len64 (x : Int) (w : World) (h0 : 0 ≤ x) (h1 : x ≤ 18446744073709551615) :
    Calls Tryz.prog 148 #[.int .u64 x] w fun e w' => e = .returned (.int .i64 (Lib.bitLen x.toNat)) ∧ w' = w := Any.bits_Len64 Tryz.lays129 x w h0 h1
def Tryz.lays219_ren : Go.Shelf.Ren := ⟨fun | 219 => 161 | 217 => 207 | 225 => 208 | 224 => 209 | 267 => 210 | 266 => 251 | 314 => 252 | n => n, fun | 9 => 9 | 3 => 3 | 4 => 4 | 5 => 5 | 46 => 177 | 146 => 279 | 51 => 278 | n => n, fun | 1 => 0 | n => n⟩
theorem Tryz.lays219 : Go.Proofs.Lays.n219 Tryz.prog Tryz.lays219_ren := {
  mixed := by kernel_rfl
  f217 := Tryz.func207.trans (congrArg some (by kernel_rfl))
  f219 := Tryz.func161.trans (congrArg some (by kernel_rfl))
  f224 := Tryz.func209.trans (congrArg some (by kernel_rfl))
  f225 := Tryz.func208.trans (congrArg some (by kernel_rfl))
  f266 := Tryz.func251.trans (congrArg some (by kernel_rfl))
  f267 := Tryz.func210.trans (congrArg some (by kernel_rfl))
  f314 := Tryz.func252.trans (congrArg some (by kernel_rfl))
  t3 := Tryz.underlying3
  a3 := Tryz.isAgg3
  z3 := Tryz.sizeOf3
  v3 := Tryz.zeroValue3
  t4 := Tryz.underlying4
  a4 := Tryz.isAgg4
  z4 := Tryz.sizeOf4
  v4 := Tryz.zeroValue4
  t5 := Tryz.underlying5
  a5 := Tryz.isAgg5
  z5 := Tryz.sizeOf5
  v5 := Tryz.zeroValue5
  t9 := Tryz.underlying9
  a9 := Tryz.isAgg9
  z9 := Tryz.sizeOf9
  v9 := Tryz.zeroValue9
  t46 := Tryz.underlying177
  a46 := Tryz.isAgg177
  z46 := Tryz.sizeOf177
  v46 := Tryz.zeroValue177
  t51 := Tryz.underlying278
  a51 := Tryz.isAgg278
  z51 := Tryz.sizeOf278
  v51 := Tryz.zeroValue278
  t146 := Tryz.underlying279
  a146 := Tryz.isAgg279
  z146 := Tryz.sizeOf279
  v146 := Tryz.zeroValue279
  g1 := by kernel_rfl }
open Go.RowKit Go.Lib in
theorem Tryz.stringslite_Index_one (s : ByteArray) (c : UInt8) (w : World) :
    Calls Tryz.prog 161 #[.string s, .string ⟨#[c]⟩] w fun e w' => e = .returned (.int .i64 (Lib.indexByte s.data.toList c)) ∧ w' = w := Any.stringslite_Index_one Tryz.lays219 s c w
def Tryz.lays99_ren : Go.Shelf.Ren := ⟨fun | 99 => 130 | 206 => 163 | n => n, fun | 9 => 9 | 4 => 4 | 3 => 3 | n => n, fun | n => n⟩
theorem Tryz.lays99 : Go.Proofs.Lays.n99 Tryz.prog Tryz.lays99_ren := {
  mixed := by kernel_rfl
  f99 := Tryz.func130.trans (congrArg some (by kernel_rfl))
  f206 := Tryz.func163.trans (congrArg some (by kernel_rfl))
  t3 := Tryz.underlying3
  a3 := Tryz.isAgg3
  z3 := Tryz.sizeOf3
  v3 := Tryz.zeroValue3
  t4 := Tryz.underlying4
  a4 := Tryz.isAgg4
  z4 := Tryz.sizeOf4
  v4 := Tryz.zeroValue4
  t9 := Tryz.underlying9
  a9 := Tryz.isAgg9
  z9 := Tryz.sizeOf9
  v9 := Tryz.zeroValue9 }
open Go.RowKit Go.Lib in
theorem Tryz.strings_HasPrefix (s p : ByteArray) (w : World) :
    Calls Tryz.prog 130 #[.string s, .string p] w fun e w' => e = .returned (.bool (Lib.hasPrefix s.data.toList p.data.toList)) ∧ w' = w := Any.strings_HasPrefix Tryz.lays99 s p w
end Go.Proofs
namespace Go.Proofs.YtnnnhjgmgomlpaaGreat
open Go.RowKit Wh
theorem cell_put_other {W : World} {X : Nat} {u u' : Value} {p : Addr} (h : p.block ≠ X) : ((W.setCell ⟨X, 0, none⟩ u).setCell ⟨X, 1, none⟩ u').cell? p = W.cell? p :=
  (World.cell?_of_block (w := W.setCell ⟨X, 0, none⟩ u) (Below.heap_setCell _ _ _ _ h)).trans (World.cell?_of_block (w := W) (Below.heap_setCell _ _ _ _ h))
theorem Lim.put {W : World} {v : Value} {l : List Nat} {X : Nat} {b0 : Bool} {a0 : Option Addr} {k0 c0 : Nat} (h : Lim W v l) (hx : Bx W X (.bool b0) (.slice a0 k0 c0)) (u u' : Value) : Lim ((W.setCell ⟨X, 0, none⟩ u).setCell ⟨X, 1, none⟩ u') v l := by
  obtain ⟨a, cap, rfl, h1, h2, h3⟩ := h
  refine ⟨a, cap, rfl, h1, h2, ?_⟩
  rcases h3 with h3 | ⟨b, off, rfl, hc⟩
  · exact .inl h3
  · by_cases hl : l = []
    · exact .inl hl
    · have hb : b ≠ X := fun e => by
        subst e
        have := hc 0 (List.length_pos_iff.2 hl)
        have hh : W.heap[b]? = some (.cells #[.bool b0, .slice a0 k0 c0] 24 (0, 0)) := hx
        simp only [World.cell?, hh] at this
        rcases Nat.lt_trichotomy off 1 with g | g | g
        · obtain rfl : off = 0 := by omega
          simp at this
        · subst g; simp at this
        · simp at this
          rw [List.getElem?_eq_none (by simp; omega)] at this
          cases this
      exact .inr ⟨b, off, rfl, fun j hj => (cell_put_other hb).trans (hc j hj)⟩
theorem Num.put {W : World} {v : Value} {z : Int} {X : Nat} {b0 : Bool} {a0 : Option Addr} {k0 c0 : Nat} (h : Num W v z) (hx : Bx W X (.bool b0) (.slice a0 k0 c0)) (u u' : Value) : Num ((W.setCell ⟨X, 0, none⟩ u).setCell ⟨X, 1, none⟩ u') v z := by
  obtain ⟨s, e, h⟩ := h; exact ⟨s, e, h.put hx u u'⟩
end Go.Proofs.YtnnnhjgmgomlpaaGreat
