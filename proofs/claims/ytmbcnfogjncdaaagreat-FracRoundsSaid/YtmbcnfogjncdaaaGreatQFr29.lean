/- A part of the proofs about fractions. -/
import Derived.Lib.IndexBytes
import Derived.Outline
import Derived.Test.YtmbcnfogjncdaaaGreatQFr1
import Derived.Test.YtmbcnfogjncdaaaGreatQFr11
import Derived.Test.YtmbcnfogjncdaaaGreatQFr14
import Derived.Test.YtmbcnfogjncdaaaGreatQFr17
import Derived.Test.YtmbcnfogjncdaaaGreatQFr2
import Derived.Test.YtmbcnfogjncdaaaGreatQFr28
import Derived.Test.YtmbcnfogjncdaaaGreatQFr3
set_option maxRecDepth 100000
set_option maxHeartbeats 4000000
namespace Go.Proofs.YtmbcnfogjncdaaaGreat
open Go.RowKit Wh
theorem fra_lens {W : World} {b : Bool} {a : Option Addr} {k c : Nat} {d : Bool} {e : Option Addr} {l m : Nat} {q : Rat} (h : Fra W (.agg #[.bool b, .slice a k c, .bool d, .slice e l m]) q) : k = (dig q.num.natAbs).length ∧ l = (dig q.den).length := by
 obtain ⟨-, -, h1, h2⟩ := fra_nums h
 have e1 := (num_len h1).1
 have e2 := (num_len h2).1
 rw [Int.natAbs_natCast] at e2
 exact ⟨e1, e2⟩
theorem Low2_num (va vb : Value) (n d : Int) (hn : (dig n.natAbs).length ≤ 8192) (hd : (dig d.natAbs).length ≤ 8192) (hd0 : d ≠ 0) (w : World) (h : Num w va n) (g : Num w vb d) : Calls Tryz.prog 86 #[va, vb] w fun e w' => (∃ v, e = .returned v ∧ Fra w' v (Rat.divInt n d)) ∧ Below w.heap.size w w' := by
 obtain ⟨b1, x, k, c, rfl⟩ := h.opened
 obtain ⟨b2, y, l, e, rfl⟩ := g.opened
 exact Low2_raw b1 x k c b2 y l e n d hn hd hd0 w h g
theorem told_fra (v : Value) (z : Rat) (hz : Fz 256 256 z) (w : World) (h : Fra w v z) : Calls Tryz.prog 85 #[v] w fun e w' => (∃ u, e = .returned (.tuple #[u, .int .i64 0]) ∧ Fra w' u z) ∧ Below w.heap.size w w' := by
 obtain ⟨b, a, k, c, d, e, l, m, rfl⟩ := h.opened
 obtain ⟨e1, e2⟩ := fra_lens h
 have s1 := hz.1.len2
 have s2 := hz.2.len2
 rw [Int.natAbs_natCast] at s2
 exact (ref2told_ok b a k c d e l m (by rw [decide_eq_true (by omega), decide_eq_true (by omega)]; rfl) w).mono fun _ _ ⟨he, hb⟩ => ⟨⟨_, he, h.below hb (Nat.le_refl _)⟩, hb⟩
theorem ref2Round_bad1 (bx : Bool) (ax : Option Addr) (kx cx : Nat) (dx : Bool) (ex : Option Addr) (lx mx : Nat) (bv : Bool) (av : Option Addr) (kv cv : Nat) (dv : Bool) (ev : Option Addr) (lv mv : Nat) (m : Nat) (w : World) (hx : ∀ W, Below w.heap.size w W → Calls Tryz.prog 104 #[.agg #[.bool bx, .slice ax kx cx, .bool dx, .slice ex lx mx]] W fun e w' => e = .returned (.bool false) ∧ Below W.heap.size W w') :
  Calls Tryz.prog 35 #[.agg #[.bool bx, .slice ax kx cx, .bool dx, .slice ex lx mx], .agg #[.bool bv, .slice av kv cv, .bool dv, .slice ev lv mv], .int .u8 (m : Int)] w fun e w' => e = .returned (.tuple #[.agg #[.bool false, .slice none 0 0, .bool false, .slice none 0 0], .int .i64 2]) ∧ Below w.heap.size w w' := by
 have HX := Lib.hid hx
 clear hx
 have hB := Below.refl w.heap.size w
 obtain ⟨al, xx, hN⟩ := mk hB #[.bool bx, .slice ax kx cx, .bool dx, .slice ex lx mx] 39
 replace hB := hN; clear al hN
 try simp only [World.size_alloc] at xx
 obtain ⟨al, xv, hN⟩ := mk hB #[.bool bv, .slice av kv cv, .bool dv, .slice ev lv mv] 39
 replace xx := xx.on al; replace hB := hN; clear al hN
 try simp only [World.size_alloc] at xv
 obtain ⟨al, xr, hN⟩ := mk hB #[.bool false, .slice none 0 0, .bool false, .slice none 0 0] 39
 replace xx := xx.on al; replace xv := xv.on al; replace hB := hN; clear al hN
 try simp only [World.size_alloc] at xr
 go_enter Tryz.func35, Tryz.ntmps35
 have px := xx.all4
 have pv := xv.all4
 have pr := xr.all4
 go_wp2_with fail
 clear px pv pr
 refine (HX.out _ hB).mono ?_
 rintro e w1 ⟨rfl, hb⟩
 replace xx := xx.on hb; replace xv := xv.on hb; replace xr := xr.on hb
 have hz1 := hb.size
 try simp at hz1
 replace hB := hB.trans (hb.mono hB.size); clear hb
 have px := xx.all4
 have pv := xv.all4
 have pr := xr.all4
 go_wp2_with fail
 clear px pv pr xx xv; replace xr := xr.put4 (.bool false) (.slice none 0 0) (.bool false) (.slice none 0 0); replace hB := below4 hB (w.heap.size + 1 + 1) (by first | omega | (simp; omega) | simp) (.bool false) (.slice none 0 0) (.bool false) (.slice none 0 0)
 generalize ((((w1.setCell ⟨w.heap.size + 1 + 1, 0, none⟩ (.bool false)).setCell ⟨w.heap.size + 1 + 1, 1, none⟩ (.slice none 0 0)).setCell ⟨w.heap.size + 1 + 1, 2, none⟩ (.bool false)).setCell ⟨w.heap.size + 1 + 1, 3, none⟩ (.slice none 0 0)) = WF at *
 have pr := xr.all4
 exact bodyPost_ret (v := .tuple #[.agg #[.bool false, .slice none 0 0, .bool false, .slice none 0 0], .int .i64 2]) (by simp [results, Tryz.results35, go_sem, pr]) rfl ⟨rfl, hB⟩
theorem ref2Round_bad2 (bx : Bool) (ax : Option Addr) (kx cx : Nat) (dx : Bool) (ex : Option Addr) (lx mx : Nat) (bv : Bool) (av : Option Addr) (kv cv : Nat) (dv : Bool) (ev : Option Addr) (lv mv : Nat) (m : Nat) (w : World) (hx : ∀ W, Below w.heap.size w W → Calls Tryz.prog 104 #[.agg #[.bool bx, .slice ax kx cx, .bool dx, .slice ex lx mx]] W fun e w' => e = .returned (.bool true) ∧ Below W.heap.size W w') (hv : ∀ W, Below w.heap.size w W → Calls Tryz.prog 104 #[.agg #[.bool bv, .slice av kv cv, .bool dv, .slice ev lv mv]] W fun e w' => e = .returned (.bool false) ∧ Below W.heap.size W w') :
  Calls Tryz.prog 35 #[.agg #[.bool bx, .slice ax kx cx, .bool dx, .slice ex lx mx], .agg #[.bool bv, .slice av kv cv, .bool dv, .slice ev lv mv], .int .u8 (m : Int)] w fun e w' => e = .returned (.tuple #[.agg #[.bool false, .slice none 0 0, .bool false, .slice none 0 0], .int .i64 2]) ∧ Below w.heap.size w w' := by
 have HX := Lib.hid hx
 clear hx
 have HV := Lib.hid hv
 clear hv
 have hB := Below.refl w.heap.size w
 obtain ⟨al, xx, hN⟩ := mk hB #[.bool bx, .slice ax kx cx, .bool dx, .slice ex lx mx] 39
 replace hB := hN; clear al hN
 try simp only [World.size_alloc] at xx
 obtain ⟨al, xv, hN⟩ := mk hB #[.bool bv, .slice av kv cv, .bool dv, .slice ev lv mv] 39
 replace xx := xx.on al; replace hB := hN; clear al hN
 try simp only [World.size_alloc] at xv
 obtain ⟨al, xr, hN⟩ := mk hB #[.bool false, .slice none 0 0, .bool false, .slice none 0 0] 39
 replace xx := xx.on al; replace xv := xv.on al; replace hB := hN; clear al hN
 try simp only [World.size_alloc] at xr
 go_enter Tryz.func35, Tryz.ntmps35
 have px := xx.all4
 have pv := xv.all4
 have pr := xr.all4
 go_wp2_with fail
 clear px pv pr
 refine (HX.out _ hB).mono ?_
 rintro e w1 ⟨rfl, hb⟩
 replace xx := xx.on hb; replace xv := xv.on hb; replace xr := xr.on hb
 have hz1 := hb.size
 try simp at hz1
 replace hB := hB.trans (hb.mono hB.size); clear hb
 have px := xx.all4
 have pv := xv.all4
 have pr := xr.all4
 go_wp2_with fail
 clear px pv pr
 refine (HV.out _ hB).mono ?_
 rintro e w2 ⟨rfl, hb⟩
 replace xx := xx.on hb; replace xv := xv.on hb; replace xr := xr.on hb
 have hz2 := hb.size
 try simp at hz2
 replace hB := hB.trans (hb.mono hB.size); clear hb
 have px := xx.all4
 have pv := xv.all4
 have pr := xr.all4
 go_wp2_with fail
 clear px pv pr xx xv; replace xr := xr.put4 (.bool false) (.slice none 0 0) (.bool false) (.slice none 0 0); replace hB := below4 hB (w.heap.size + 1 + 1) (by first | omega | (simp; omega) | simp) (.bool false) (.slice none 0 0) (.bool false) (.slice none 0 0)
 generalize ((((w2.setCell ⟨w.heap.size + 1 + 1, 0, none⟩ (.bool false)).setCell ⟨w.heap.size + 1 + 1, 1, none⟩ (.slice none 0 0)).setCell ⟨w.heap.size + 1 + 1, 2, none⟩ (.bool false)).setCell ⟨w.heap.size + 1 + 1, 3, none⟩ (.slice none 0 0)) = WF at *
 have pr := xr.all4
 exact bodyPost_ret (v := .tuple #[.agg #[.bool false, .slice none 0 0, .bool false, .slice none 0 0], .int .i64 2]) (by simp [results, Tryz.results35, go_sem, pr]) rfl ⟨rfl, hB⟩
theorem ref2Round_m0 (bx : Bool) (ax : Option Addr) (kx cx : Nat) (dx : Bool) (ex : Option Addr) (lx mx : Nat) (bv : Bool) (av : Option Addr) (kv cv : Nat) (dv : Bool) (ev : Option Addr) (lv mv : Nat)  (w : World) (hx : ∀ W, Below w.heap.size w W → Calls Tryz.prog 104 #[.agg #[.bool bx, .slice ax kx cx, .bool dx, .slice ex lx mx]] W fun e w' => e = .returned (.bool true) ∧ Below W.heap.size W w') (hv : ∀ W, Below w.heap.size w W → Calls Tryz.prog 104 #[.agg #[.bool bv, .slice av kv cv, .bool dv, .slice ev lv mv]] W fun e w' => e = .returned (.bool true) ∧ Below W.heap.size W w') :
  Calls Tryz.prog 35 #[.agg #[.bool bx, .slice ax kx cx, .bool dx, .slice ex lx mx], .agg #[.bool bv, .slice av kv cv, .bool dv, .slice ev lv mv], .int .u8 0] w fun e w' => e = .returned (.tuple #[.agg #[.bool false, .slice none 0 0, .bool false, .slice none 0 0], .int .i64 2]) ∧ Below w.heap.size w w' := by
 have HX := Lib.hid hx
 clear hx
 have HV := Lib.hid hv
 clear hv
 have hB := Below.refl w.heap.size w
 obtain ⟨al, xx, hN⟩ := mk hB #[.bool bx, .slice ax kx cx, .bool dx, .slice ex lx mx] 39
 replace hB := hN; clear al hN
 try simp only [World.size_alloc] at xx
 obtain ⟨al, xv, hN⟩ := mk hB #[.bool bv, .slice av kv cv, .bool dv, .slice ev lv mv] 39
 replace xx := xx.on al; replace hB := hN; clear al hN
 try simp only [World.size_alloc] at xv
 obtain ⟨al, xr, hN⟩ := mk hB #[.bool false, .slice none 0 0, .bool false, .slice none 0 0] 39
 replace xx := xx.on al; replace xv := xv.on al; replace hB := hN; clear al hN
 try simp only [World.size_alloc] at xr
 go_enter Tryz.func35, Tryz.ntmps35
 have px := xx.all4
 have pv := xv.all4
 have pr := xr.all4
 go_wp2_with fail
 clear px pv pr
 refine (HX.out _ hB).mono ?_
 rintro e w1 ⟨rfl, hb⟩
 replace xx := xx.on hb; replace xv := xv.on hb; replace xr := xr.on hb
 have hz1 := hb.size
 try simp at hz1
 replace hB := hB.trans (hb.mono hB.size); clear hb
 have px := xx.all4
 have pv := xv.all4
 have pr := xr.all4
 go_wp2_with fail
 clear px pv pr
 refine (HV.out _ hB).mono ?_
 rintro e w2 ⟨rfl, hb⟩
 replace xx := xx.on hb; replace xv := xv.on hb; replace xr := xr.on hb
 have hz2 := hb.size
 try simp at hz2
 replace hB := hB.trans (hb.mono hB.size); clear hb
 have px := xx.all4
 have pv := xv.all4
 have pr := xr.all4
 go_wp2_with fail
 clear px pv pr xx xv; replace xr := xr.put4 (.bool false) (.slice none 0 0) (.bool false) (.slice none 0 0); replace hB := below4 hB (w.heap.size + 1 + 1) (by first | omega | (simp; omega) | simp) (.bool false) (.slice none 0 0) (.bool false) (.slice none 0 0)
 generalize ((((w2.setCell ⟨w.heap.size + 1 + 1, 0, none⟩ (.bool false)).setCell ⟨w.heap.size + 1 + 1, 1, none⟩ (.slice none 0 0)).setCell ⟨w.heap.size + 1 + 1, 2, none⟩ (.bool false)).setCell ⟨w.heap.size + 1 + 1, 3, none⟩ (.slice none 0 0)) = WF at *
 have pr := xr.all4
 exact bodyPost_ret (v := .tuple #[.agg #[.bool false, .slice none 0 0, .bool false, .slice none 0 0], .int .i64 2]) (by simp [results, Tryz.results35, go_sem, pr]) rfl ⟨rfl, hB⟩
theorem ref2Round_m7 (bx : Bool) (ax : Option Addr) (kx cx : Nat) (dx : Bool) (ex : Option Addr) (lx mx : Nat) (bv : Bool) (av : Option Addr) (kv cv : Nat) (dv : Bool) (ev : Option Addr) (lv mv : Nat) (m : Nat) (hm : 7 ≤ m) (w : World) (hx : ∀ W, Below w.heap.size w W → Calls Tryz.prog 104 #[.agg #[.bool bx, .slice ax kx cx, .bool dx, .slice ex lx mx]] W fun e w' => e = .returned (.bool true) ∧ Below W.heap.size W w') (hv : ∀ W, Below w.heap.size w W → Calls Tryz.prog 104 #[.agg #[.bool bv, .slice av kv cv, .bool dv, .slice ev lv mv]] W fun e w' => e = .returned (.bool true) ∧ Below W.heap.size W w') :
  Calls Tryz.prog 35 #[.agg #[.bool bx, .slice ax kx cx, .bool dx, .slice ex lx mx], .agg #[.bool bv, .slice av kv cv, .bool dv, .slice ev lv mv], .int .u8 (m : Int)] w fun e w' => e = .returned (.tuple #[.agg #[.bool false, .slice none 0 0, .bool false, .slice none 0 0], .int .i64 2]) ∧ Below w.heap.size w w' := by
 have hmi : 6 < (m : Int) := by omega
 clear hm
 have HX := Lib.hid hx
 clear hx
 have HV := Lib.hid hv
 clear hv
 have hB := Below.refl w.heap.size w
 obtain ⟨al, xx, hN⟩ := mk hB #[.bool bx, .slice ax kx cx, .bool dx, .slice ex lx mx] 39
 replace hB := hN; clear al hN
 try simp only [World.size_alloc] at xx
 obtain ⟨al, xv, hN⟩ := mk hB #[.bool bv, .slice av kv cv, .bool dv, .slice ev lv mv] 39
 replace xx := xx.on al; replace hB := hN; clear al hN
 try simp only [World.size_alloc] at xv
 obtain ⟨al, xr, hN⟩ := mk hB #[.bool false, .slice none 0 0, .bool false, .slice none 0 0] 39
 replace xx := xx.on al; replace xv := xv.on al; replace hB := hN; clear al hN
 try simp only [World.size_alloc] at xr
 go_enter Tryz.func35, Tryz.ntmps35
 have px := xx.all4
 have pv := xv.all4
 have pr := xr.all4
 go_wp2_with fail
 clear px pv pr
 refine (HX.out _ hB).mono ?_
 rintro e w1 ⟨rfl, hb⟩
 replace xx := xx.on hb; replace xv := xv.on hb; replace xr := xr.on hb
 have hz1 := hb.size
 try simp at hz1
 replace hB := hB.trans (hb.mono hB.size); clear hb
 have px := xx.all4
 have pv := xv.all4
 have pr := xr.all4
 go_wp2_with fail
 clear px pv pr
 refine (HV.out _ hB).mono ?_
 rintro e w2 ⟨rfl, hb⟩
 replace xx := xx.on hb; replace xv := xv.on hb; replace xr := xr.on hb
 have hz2 := hb.size
 try simp at hz2
 replace hB := hB.trans (hb.mono hB.size); clear hb
 have px := xx.all4
 have pv := xv.all4
 have pr := xr.all4
 go_wp2_with fail
 clear px pv pr xx xv; replace xr := xr.put4 (.bool false) (.slice none 0 0) (.bool false) (.slice none 0 0); replace hB := below4 hB (w.heap.size + 1 + 1) (by first | omega | (simp; omega) | simp) (.bool false) (.slice none 0 0) (.bool false) (.slice none 0 0)
 generalize ((((w2.setCell ⟨w.heap.size + 1 + 1, 0, none⟩ (.bool false)).setCell ⟨w.heap.size + 1 + 1, 1, none⟩ (.slice none 0 0)).setCell ⟨w.heap.size + 1 + 1, 2, none⟩ (.bool false)).setCell ⟨w.heap.size + 1 + 1, 3, none⟩ (.slice none 0 0)) = WF at *
 have pr := xr.all4
 exact bodyPost_ret (v := .tuple #[.agg #[.bool false, .slice none 0 0, .bool false, .slice none 0 0], .int .i64 2]) (by simp [results, Tryz.results35, go_sem, pr]) rfl ⟨rfl, hB⟩
theorem ref2Round_neg (bx : Bool) (ax : Option Addr) (kx cx : Nat) (dx : Bool) (ex : Option Addr) (lx mx : Nat) (bv : Bool) (av : Option Addr) (kv cv : Nat) (dv : Bool) (ev : Option Addr) (lv mv : Nat) (m : Nat) (hm1 : 1 ≤ m) (hm6 : m ≤ 6) (hn : bv = true) (w : World) (hx : ∀ W, Below w.heap.size w W → Calls Tryz.prog 104 #[.agg #[.bool bx, .slice ax kx cx, .bool dx, .slice ex lx mx]] W fun e w' => e = .returned (.bool true) ∧ Below W.heap.size W w') (hv : ∀ W, Below w.heap.size w W → Calls Tryz.prog 104 #[.agg #[.bool bv, .slice av kv cv, .bool dv, .slice ev lv mv]] W fun e w' => e = .returned (.bool true) ∧ Below W.heap.size W w') :
  Calls Tryz.prog 35 #[.agg #[.bool bx, .slice ax kx cx, .bool dx, .slice ex lx mx], .agg #[.bool bv, .slice av kv cv, .bool dv, .slice ev lv mv], .int .u8 (m : Int)] w fun e w' => e = .returned (.tuple #[.agg #[.bool false, .slice none 0 0, .bool false, .slice none 0 0], .int .i64 20]) ∧ Below w.heap.size w w' := by
 have hm1i : ¬ (m : Int) < 1 := by omega
 have hm6i : ¬ 6 < (m : Int) := by omega
 clear hm1 hm6
 subst hn
 have HX := Lib.hid hx
 clear hx
 have HV := Lib.hid hv
 clear hv
 have hB := Below.refl w.heap.size w
 obtain ⟨al, xx, hN⟩ := mk hB #[.bool bx, .slice ax kx cx, .bool dx, .slice ex lx mx] 39
 replace hB := hN; clear al hN
 try simp only [World.size_alloc] at xx
 obtain ⟨al, xv, hN⟩ := mk hB #[.bool true, .slice av kv cv, .bool dv, .slice ev lv mv] 39
 replace xx := xx.on al; replace hB := hN; clear al hN
 try simp only [World.size_alloc] at xv
 obtain ⟨al, xr, hN⟩ := mk hB #[.bool false, .slice none 0 0, .bool false, .slice none 0 0] 39
 replace xx := xx.on al; replace xv := xv.on al; replace hB := hN; clear al hN
 try simp only [World.size_alloc] at xr
 go_enter Tryz.func35, Tryz.ntmps35
 have px := xx.all4
 have pv := xv.all4
 have pr := xr.all4
 go_wp2_with fail
 clear px pv pr
 refine (HX.out _ hB).mono ?_
 rintro e w1 ⟨rfl, hb⟩
 replace xx := xx.on hb; replace xv := xv.on hb; replace xr := xr.on hb
 have hz1 := hb.size
 try simp at hz1
 replace hB := hB.trans (hb.mono hB.size); clear hb
 have px := xx.all4
 have pv := xv.all4
 have pr := xr.all4
 go_wp2_with fail
 clear px pv pr
 refine (HV.out _ hB).mono ?_
 rintro e w2 ⟨rfl, hb⟩
 replace xx := xx.on hb; replace xv := xv.on hb; replace xr := xr.on hb
 have hz2 := hb.size
 try simp at hz2
 replace hB := hB.trans (hb.mono hB.size); clear hb
 have px := xx.all4
 have pv := xv.all4
 have pr := xr.all4
 go_wp2_with fail
 clear px pv pr xx xv; replace xr := xr.put4 (.bool false) (.slice none 0 0) (.bool false) (.slice none 0 0); replace hB := below4 hB (w.heap.size + 1 + 1) (by first | omega | (simp; omega) | simp) (.bool false) (.slice none 0 0) (.bool false) (.slice none 0 0)
 generalize ((((w2.setCell ⟨w.heap.size + 1 + 1, 0, none⟩ (.bool false)).setCell ⟨w.heap.size + 1 + 1, 1, none⟩ (.slice none 0 0)).setCell ⟨w.heap.size + 1 + 1, 2, none⟩ (.bool false)).setCell ⟨w.heap.size + 1 + 1, 3, none⟩ (.slice none 0 0)) = WF at *
 have pr := xr.all4
 exact bodyPost_ret (v := .tuple #[.agg #[.bool false, .slice none 0 0, .bool false, .slice none 0 0], .int .i64 20]) (by simp [results, Tryz.results35, go_sem, pr]) rfl ⟨rfl, hB⟩
theorem ref2Round_zero (bx : Bool) (ax : Option Addr) (kx cx : Nat) (dx : Bool) (ex : Option Addr) (lx mx : Nat) (bv : Bool) (av : Option Addr) (kv cv : Nat) (dv : Bool) (ev : Option Addr) (lv mv : Nat) (m : Nat) (hm1 : 1 ≤ m) (hm6 : m ≤ 6) (hn : bv = false) (hz : kv = 0) (w : World) (hx : ∀ W, Below w.heap.size w W → Calls Tryz.prog 104 #[.agg #[.bool bx, .slice ax kx cx, .bool dx, .slice ex lx mx]] W fun e w' => e = .returned (.bool true) ∧ Below W.heap.size W w') (hv : ∀ W, Below w.heap.size w W → Calls Tryz.prog 104 #[.agg #[.bool bv, .slice av kv cv, .bool dv, .slice ev lv mv]] W fun e w' => e = .returned (.bool true) ∧ Below W.heap.size W w') :
  Calls Tryz.prog 35 #[.agg #[.bool bx, .slice ax kx cx, .bool dx, .slice ex lx mx], .agg #[.bool bv, .slice av kv cv, .bool dv, .slice ev lv mv], .int .u8 (m : Int)] w fun e w' => e = .returned (.tuple #[.agg #[.bool false, .slice none 0 0, .bool false, .slice none 0 0], .int .i64 20]) ∧ Below w.heap.size w w' := by
 have hm1i : ¬ (m : Int) < 1 := by omega
 have hm6i : ¬ 6 < (m : Int) := by omega
 clear hm1 hm6
 subst hn
 subst hz
 have HZ := Lib.hid (fun W => ref2Zero_yes false av 0 cv dv ev lv mv rfl W)
 have HX := Lib.hid hx
 clear hx
 have HV := Lib.hid hv
 clear hv
 have hB := Below.refl w.heap.size w
 obtain ⟨al, xx, hN⟩ := mk hB #[.bool bx, .slice ax kx cx, .bool dx, .slice ex lx mx] 39
 replace hB := hN; clear al hN
 try simp only [World.size_alloc] at xx
 obtain ⟨al, xv, hN⟩ := mk hB #[.bool false, .slice av 0 cv, .bool dv, .slice ev lv mv] 39
 replace xx := xx.on al; replace hB := hN; clear al hN
 try simp only [World.size_alloc] at xv
 obtain ⟨al, xr, hN⟩ := mk hB #[.bool false, .slice none 0 0, .bool false, .slice none 0 0] 39
 replace xx := xx.on al; replace xv := xv.on al; replace hB := hN; clear al hN
 try simp only [World.size_alloc] at xr
 go_enter Tryz.func35, Tryz.ntmps35
 have px := xx.all4
 have pv := xv.all4
 have pr := xr.all4
 go_wp2_with fail
 clear px pv pr
 refine (HX.out _ hB).mono ?_
 rintro e w1 ⟨rfl, hb⟩
 replace xx := xx.on hb; replace xv := xv.on hb; replace xr := xr.on hb
 have hz1 := hb.size
 try simp at hz1
 replace hB := hB.trans (hb.mono hB.size); clear hb
 have px := xx.all4
 have pv := xv.all4
 have pr := xr.all4
 go_wp2_with fail
 clear px pv pr
 refine (HV.out _ hB).mono ?_
 rintro e w2 ⟨rfl, hb⟩
 replace xx := xx.on hb; replace xv := xv.on hb; replace xr := xr.on hb
 have hz2 := hb.size
 try simp at hz2
 replace hB := hB.trans (hb.mono hB.size); clear hb
 have px := xx.all4
 have pv := xv.all4
 have pr := xr.all4
 go_wp2_with fail
 clear px pv pr
 refine (HZ.out _).mono ?_
 rintro e w3 ⟨rfl, hb⟩
 replace xx := xx.on hb; replace xv := xv.on hb; replace xr := xr.on hb
 have hz3 := hb.size
 try simp at hz3
 replace hB := hB.trans (hb.mono hB.size); clear hb
 have px := xx.all4
 have pv := xv.all4
 have pr := xr.all4
 go_wp2_with fail
 clear px pv pr xx xv; replace xr := xr.put4 (.bool false) (.slice none 0 0) (.bool false) (.slice none 0 0); replace hB := below4 hB (w.heap.size + 1 + 1) (by first | omega | (simp; omega) | simp) (.bool false) (.slice none 0 0) (.bool false) (.slice none 0 0)
 generalize ((((w3.setCell ⟨w.heap.size + 1 + 1, 0, none⟩ (.bool false)).setCell ⟨w.heap.size + 1 + 1, 1, none⟩ (.slice none 0 0)).setCell ⟨w.heap.size + 1 + 1, 2, none⟩ (.bool false)).setCell ⟨w.heap.size + 1 + 1, 3, none⟩ (.slice none 0 0)) = WF at *
 have pr := xr.all4
 exact bodyPost_ret (v := .tuple #[.agg #[.bool false, .slice none 0 0, .bool false, .slice none 0 0], .int .i64 20]) (by simp [results, Tryz.results35, go_sem, pr]) rfl ⟨rfl, hB⟩
theorem ref2Round_ok (bx : Bool) (ax : Option Addr) (kx cx : Nat) (dx : Bool) (ex : Option Addr) (lx mx : Nat) (bv : Bool) (av : Option Addr) (kv cv : Nat) (dv : Bool) (ev : Option Addr) (lv mv : Nat) (q u : Rat) (sq : Fz 256 256 q) (su : Fz 256 256 u) (hu : 0 < u.num) (m : Nat) (hm1 : 1 ≤ m) (hm6 : m ≤ 6) (hz : Fz 256 256 (rnd q u m)) (w : World) (hx : ∀ W, Below w.heap.size w W → Calls Tryz.prog 104 #[.agg #[.bool bx, .slice ax kx cx, .bool dx, .slice ex lx mx]] W fun e w' => e = .returned (.bool true) ∧ Below W.heap.size W w') (hv : ∀ W, Below w.heap.size w W → Calls Tryz.prog 104 #[.agg #[.bool bv, .slice av kv cv, .bool dv, .slice ev lv mv]] W fun e w' => e = .returned (.bool true) ∧ Below W.heap.size W w') (gx : Fra w (.agg #[.bool bx, .slice ax kx cx, .bool dx, .slice ex lx mx]) q) (gv : Fra w (.agg #[.bool bv, .slice av kv cv, .bool dv, .slice ev lv mv]) u) :
  Calls Tryz.prog 35 #[.agg #[.bool bx, .slice ax kx cx, .bool dx, .slice ex lx mx], .agg #[.bool bv, .slice av kv cv, .bool dv, .slice ev lv mv], .int .u8 (m : Int)] w fun e w' => (∃ v, e = .returned (.tuple #[v, .int .i64 0]) ∧ Fra w' v (rnd q u m)) ∧ Below w.heap.size w w' := by
 have hm1i : ¬ (m : Int) < 1 := by omega
 have hm6i : ¬ 6 < (m : Int) := by omega
 have HX := Lib.hid hx
 have HV := Lib.hid hv
 have HFc := Lib.hid (fun W (hW : Below w.heap.size w W) => refFactor_any bx ax kx cx dx ex lx mx bv av kv cv dv ev lv mv q u sq su hu m hm1 hm6 W (gx.below hW (Nat.le_refl _)) (gv.below hW (Nat.le_refl _)))
 obtain ⟨eb, -, gvn, gvd⟩ := fra_nums gv
 obtain rfl : bv = false := eb.trans (decide_eq_false (by omega))
 have hkv : ((kv : Int) == 0) = false := by
  rw [beq_eq_false_iff_ne]; intro e
  have h1 := (num_len gvn).1
  have h2 : dig u.num.natAbs = [] := List.eq_nil_of_length_eq_zero (by omega)
  have h3 := (dig_nil_iff _).1 h2; omega
 have HZ := Lib.hid (fun W => ref2Zero_no false av kv cv dv ev lv mv (by rw [beq_eq_false_iff_ne] at hkv; omega) W)
 have hD : 0 < (q.den : Int) * u.num := Int.mul_pos (Fq.den_pos q) hu
 have sN : Sz 512 (q.num * u.den) := Sz.mul sq.1 su.2
 have sF := rfac_sz (decide (q.num < 0)) m sN hD
 have er : rnd q u m = Rat.divInt (rfac (decide (q.num < 0)) (q.num * u.den) ((q.den : Int) * u.num) m * u.num) u.den := rfl
 generalize hFF : rfac (decide (q.num < 0)) (q.num * u.den) ((q.den : Int) * u.num) m = f at *
 have sP : Sz 769 (f * u.num) := Sz.mul sF su.1
 have HP := Lib.hid (fun va vb W (h : Num W va f) (g : Num W vb u.num) => refProduct_num va vb f u.num (Nat.le_trans sF (by decide)) (Nat.le_trans su.1 (by decide)) W h g)
 have HL := Lib.hid (fun va vb W (h : Num W va (f * u.num)) (g : Num W vb (u.den : Int)) => Low2_num va vb (f * u.num) u.den (Nat.le_trans sP (by decide)) (Nat.le_trans su.2 (by decide)) (by have := Fq.den_pos u; omega) W h g)
 rw [← er] at HL
 have HT := Lib.hid (fun v W (h : Fra W v (rnd q u m)) => told_fra v _ hz W h)
 generalize rnd q u m = z at *
 clear er hFF sF sP sN hD hz hu sq su eb hx hv hkv hm1 hm6 gx gv
 have hB := Below.refl w.heap.size w
 obtain ⟨al, xx, hN⟩ := mk hB #[.bool bx, .slice ax kx cx, .bool dx, .slice ex lx mx] 39
 replace gvn := gvn.on al; replace gvd := gvd.on al; replace hB := hN; clear al hN
 try simp only [World.size_alloc] at xx
 obtain ⟨al, xv, hN⟩ := mk hB #[.bool false, .slice av kv cv, .bool dv, .slice ev lv mv] 39
 replace xx := xx.on al; replace gvn := gvn.on al; replace gvd := gvd.on al; replace hB := hN; clear al hN
 try simp only [World.size_alloc] at xv
 obtain ⟨al, xr, hN⟩ := mk hB #[.bool false, .slice none 0 0, .bool false, .slice none 0 0] 39
 replace xx := xx.on al; replace xv := xv.on al; replace gvn := gvn.on al; replace gvd := gvd.on al; replace hB := hN; clear al hN
 try simp only [World.size_alloc] at xr
 go_enter Tryz.func35, Tryz.ntmps35
 have px := xx.all4
 have pv := xv.all4
 have pr := xr.all4
 have ltx := xx.lt
 have ltv := xv.lt
 have ltr := xr.lt
 go_wp2_with fail
 clear ltx ltv ltr px pv pr
 refine (HX.out _ hB).mono ?_
 rintro e w1 ⟨rfl, hb⟩
 replace xx := xx.on hb; replace xv := xv.on hb; replace xr := xr.on hb; replace gvn := gvn.on hb; replace gvd := gvd.on hb
 have hz1 := hb.size
 try simp at hz1
 replace hB := hB.trans (hb.mono hB.size); clear hb
 have px := xx.all4
 have pv := xv.all4
 have pr := xr.all4
 have ltx := xx.lt
 have ltv := xv.lt
 have ltr := xr.lt
 go_wp2_with fail
 clear ltx ltv ltr px pv pr
 refine (HV.out _ hB).mono ?_
 rintro e w2 ⟨rfl, hb⟩
 replace xx := xx.on hb; replace xv := xv.on hb; replace xr := xr.on hb; replace gvn := gvn.on hb; replace gvd := gvd.on hb
 have hz2 := hb.size
 try simp at hz2
 replace hB := hB.trans (hb.mono hB.size); clear hb
 have px := xx.all4
 have pv := xv.all4
 have pr := xr.all4
 have ltx := xx.lt
 have ltv := xv.lt
 have ltr := xr.lt
 go_wp2_with fail
 clear ltx ltv ltr px pv pr
 refine (HZ.out _).mono ?_
 rintro e w3 ⟨rfl, hb⟩
 replace xx := xx.on hb; replace xv := xv.on hb; replace xr := xr.on hb; replace gvn := gvn.on hb; replace gvd := gvd.on hb
 have hz3 := hb.size
 try simp at hz3
 replace hB := hB.trans (hb.mono hB.size); clear hb
 have px := xx.all4
 have pv := xv.all4
 have pr := xr.all4
 have ltx := xx.lt
 have ltv := xv.lt
 have ltr := xr.lt
 go_wp2_with fail
 clear ltx ltv ltr px pv pr
 obtain ⟨wa, hwa⟩ : ∃ W, W = w3 := ⟨_, rfl⟩
 rw [← hwa] at hB xx xv xr gvn gvd ⊢
 clear hwa hm1i hm6i
 have qx := xx.lt
 have qv := xv.lt
 obtain ⟨gx0, gx1, gx2, gx3⟩ := xx.cells4
 obtain ⟨gv0, gv1, gv2, gv3⟩ := xv.cells4
 refine wp_region_noPanic ?_
 refine wp_region_held_drew (S := (fun w' => (w'.cell? ⟨w.heap.size, 0, none⟩ = some (.bool bx) ∧ w'.cell? ⟨w.heap.size, 1, none⟩ = some (.slice ax kx cx) ∧ w'.cell? ⟨w.heap.size, 2, none⟩ = some (.bool dx) ∧ w'.cell? ⟨w.heap.size, 3, none⟩ = some (.slice ex lx mx)) ∧ w'.cell? ⟨w.heap.size + 1, 0, none⟩ = some (.bool false) ∧ w'.cell? ⟨w.heap.size + 1, 1, none⟩ = some (.slice av kv cv) ∧ w'.cell? ⟨w.heap.size + 1, 2, none⟩ = some (.bool dv) ∧ w'.cell? ⟨w.heap.size + 1, 3, none⟩ = some (.slice ev lv mv))) (by kernel_rfl) ⟨⟨gx0, gx1, gx2, gx3⟩, ⟨gv0, gv1, gv2, gv3⟩⟩ (fun hR0 => ?_)
 change wpAnyH _ _ _ _ _ 15 #[false, false, false, false, false, false, false, false, false, false, false, false, false, false, false] _ _
 clear gx0 gx1 gx2 gx3 gv0 gv1 gv2 gv3
 refine tz 0 ?_
 (try simp only [Act.put, sa, List.set])
 refine tz 1 ?_
 (try simp only [Act.put, sa, List.set])
 refine tz 2 ?_
 (try simp only [Act.put, sa, List.set])
 refine tz 4 ?_
 (try simp only [Act.put, sa, List.set])
 refine tz 5 ?_
 (try simp only [Act.put, sa, List.set])
 refine tz 7 ?_
 (try simp only [Act.put, sa, List.set])
 refine tz 8 ?_
 (try simp only [Act.put, sa, List.set])
 refine rz 3 fun K hK => ?_
 go_simp
 go_at_call 119; have hBd := hB.drew; refine (HFc.out _ hBd).mono ?_; rintro e w4 ⟨⟨v1, rfl, g1⟩, hb⟩; replace hb := (Below.refl wa.heap.size wa).drew.trans hb; replace xx := xx.on hb; replace xv := xv.on hb; replace xr := xr.on hb; replace gvn := gvn.on hb; replace gvd := gvd.on hb; replace hB := hB.trans (hb.mono hB.size); have hz4 := hb.size
 (try go_wp2_with fail)
 refine hK.out _ _ (⟨keep4 hb qx hR0.1, keep4 hb qv hR0.2⟩) (fun hR1 => ?_)
 clear hK K hR0
 (try simp only [Act.put, sa, List.set])
 replace qx := Nat.lt_of_lt_of_le qx hz4; replace qv := Nat.lt_of_lt_of_le qv hz4; clear hb hBd
 refine rz 6 fun K hK => ?_
 go_simp
 go_at_call 118; have hBd := hB; refine (HP.out _ _ _ g1 gvn).mono ?_; rintro e w5 ⟨⟨v2, rfl, g2⟩, hb⟩; replace xx := xx.on hb; replace xv := xv.on hb; replace xr := xr.on hb; replace gvn := gvn.on hb; replace gvd := gvd.on hb; replace g1 := g1.on hb; replace hB := hB.trans (hb.mono hB.size); have hz5 := hb.size
 (try go_wp2_with fail)
 refine hK.out _ _ (⟨keep4 hb qx hR1.1, keep4 hb qv hR1.2⟩) (fun hR2 => ?_)
 clear hK K hR1
 (try simp only [Act.put, sa, List.set])
 replace qx := Nat.lt_of_lt_of_le qx hz5; replace qv := Nat.lt_of_lt_of_le qv hz5; clear hb hBd
 refine rz 9 fun K hK => ?_
 go_simp
 go_at_call 86; have hBd := hB; refine (HL.out _ _ _ g2 gvd).mono ?_; rintro e w6 ⟨⟨v3, rfl, g3⟩, hb⟩; replace xx := xx.on hb; replace xv := xv.on hb; replace xr := xr.on hb; replace gvn := gvn.on hb; replace gvd := gvd.on hb; replace g1 := g1.on hb; replace g2 := g2.on hb; replace hB := hB.trans (hb.mono hB.size); have hz6 := hb.size
 (try go_wp2_with fail)
 refine hK.out _ _ (⟨keep4 hb qx hR2.1, keep4 hb qv hR2.2⟩) (fun hR3 => ?_)
 clear hK K hR2
 (try simp only [Act.put, sa, List.set])
 replace qx := Nat.lt_of_lt_of_le qx hz6; replace qv := Nat.lt_of_lt_of_le qv hz6; clear hb hBd
 refine rz 10 fun K hK => ?_
 go_simp
 go_at_call 85; have hBd := hB; refine (HT.out _ _ g3).mono ?_; rintro e w7 ⟨⟨v4, rfl, gy⟩, hb⟩; obtain ⟨bg, ag, kg, cg, dg, eg, lg, mg, rfl⟩ := gy.opened; replace xx := xx.on hb; replace xv := xv.on hb; replace xr := xr.on hb; replace gvn := gvn.on hb; replace gvd := gvd.on hb; replace g1 := g1.on hb; replace g2 := g2.on hb; replace g3 := g3.on hb; replace hB := hB.trans (hb.mono hB.size); have hz7 := hb.size
 (try go_wp2_with fail)
 refine hK.out _ _ (⟨keep4 hb qx hR3.1, keep4 hb qv hR3.2⟩) (fun hR4 => ?_)
 clear hK K hR3
 (try simp only [Act.put, sa, List.set])
 replace qx := Nat.lt_of_lt_of_le qx hz7; replace qv := Nat.lt_of_lt_of_le qv hz7; clear hb hBd
 refine tz 11 ?_
 (try simp only [Act.put, sa, List.set])
 refine tz 12 ?_
 (try simp only [Act.put, sa, List.set])
 have pr := xr.all4
 refine rz 13 fun K hK => ?_
 go_simp
 refine hK.out _ _ (⟨stay4 hR4.1 (by omega), stay4 hR4.2 (by omega)⟩) (fun hR5 => ?_)
 clear hK K hR4
 (try simp only [Act.put, sa, List.set])
 clear pr; replace gvn := gvn.setB4 xr rfl (.bool bg) (.slice ag kg cg) (.bool dg) (.slice eg lg mg) rfl; replace gvd := gvd.setB4 xr rfl (.bool bg) (.slice ag kg cg) (.bool dg) (.slice eg lg mg) rfl; replace g1 := g1.setB4 xr rfl (.bool bg) (.slice ag kg cg) (.bool dg) (.slice eg lg mg) rfl; replace g2 := g2.setB4 xr rfl (.bool bg) (.slice ag kg cg) (.bool dg) (.slice eg lg mg) rfl; replace g3 := g3.setB4 xr rfl (.bool bg) (.slice ag kg cg) (.bool dg) (.slice eg lg mg) rfl; replace gy := gy.setB4 xr rfl (.bool bg) (.slice ag kg cg) (.bool dg) (.slice eg lg mg) rfl; replace xx := xx.put_other4 (w.heap.size + 1 + 1) (.bool bg) (.slice ag kg cg) (.bool dg) (.slice eg lg mg) (by omega); replace xv := xv.put_other4 (w.heap.size + 1 + 1) (.bool bg) (.slice ag kg cg) (.bool dg) (.slice eg lg mg) (by omega); replace xr := xr.put4 (.bool bg) (.slice ag kg cg) (.bool dg) (.slice eg lg mg); replace hB := below4 hB (w.heap.size + 1 + 1) (by first | omega | (simp; omega) | simp) (.bool bg) (.slice ag kg cg) (.bool dg) (.slice eg lg mg)
 refine tz 14 ?_
 (try simp only [Act.put, sa, List.set])
 refine wpAnyH_done (by kernel_rfl) ?_ _
 refine NoPanic.normal ?_
 clear hR5 qx qv g1 g2 g3 gvn gvd xx xv
 have pr := xr.all4
 have ltr := xr.lt
 go_wp2
 clear ltr pr
 generalize ((((w7.setCell ⟨w.heap.size + 1 + 1, 0, none⟩ (.bool bg)).setCell ⟨w.heap.size + 1 + 1, 1, none⟩ (.slice ag kg cg)).setCell ⟨w.heap.size + 1 + 1, 2, none⟩ (.bool dg)).setCell ⟨w.heap.size + 1 + 1, 3, none⟩ (.slice eg lg mg)) = WF at *
 have pr := xr.all4
 have ltr := xr.lt
 exact bodyPost_ret (v := .tuple #[.agg #[.bool bg, .slice ag kg cg, .bool dg, .slice eg lg mg], .int .i64 0]) (by simp [results, Tryz.results35, go_sem, pr]) rfl ⟨⟨_, rfl, gy⟩, hB⟩
end Go.Proofs.YtmbcnfogjncdaaaGreat
namespace Go.Proofs.YtmbcnfogjncdaaaGreat
open Go.RowKit Wh
def dv (l : List UInt8) : Nat := l.foldl (fun v c => 10 * v + (c.toNat - 48)) 0
theorem dv_snoc (l : List UInt8) (c : UInt8) : dv (l ++ [c]) = 10 * dv l + (c.toNat - 48) := by simp [dv]
theorem dv_fold (l : List UInt8) : ∀ v, l.foldl (fun v c => 10 * v + (c.toNat - 48)) v = v * 10 ^ l.length + dv l := by
 induction l with
 | nil => intro v; simp [dv]
 | cons c l ih =>
  intro v
  have e : dv (c :: l) = (c.toNat - 48) * 10 ^ l.length + dv l := by
   show l.foldl _ (10 * 0 + (c.toNat - 48)) = _
   rw [ih]; simp
  rw [List.foldl_cons, ih, e, List.length_cons, Nat.pow_succ, Nat.add_mul, Nat.add_assoc, Nat.mul_comm 10 v, Nat.mul_assoc, Nat.mul_comm 10 (10 ^ l.length)]
theorem dv_append (a b : List UInt8) : dv (a ++ b) = dv a * 10 ^ b.length + dv b := by
 show (a ++ b).foldl _ 0 = _
 rw [List.foldl_append, dv_fold]; rfl
theorem dv_lt (l : List UInt8) (h : ∀ c ∈ l, isDig c = true) : dv l < 10 ^ l.length := by
 induction l with
 | nil => simp [dv]
 | cons c l ih =>
  have h1 := ih fun x hx => h x (by simp [hx])
  have h2 := h c (by simp)
  simp only [isDig, Bool.and_eq_true, decide_eq_true_eq] at h2
  have e : dv (c :: l) = (c.toNat - 48) * 10 ^ l.length + dv l := by
   show l.foldl _ (10 * 0 + (c.toNat - 48)) = _
   rw [dv_fold]; simp
  have h3 : (c.toNat - 48) * 10 ^ l.length ≤ 9 * 10 ^ l.length := Nat.mul_le_mul_right _ (by omega)
  rw [e, List.length_cons, Nat.pow_succ]
  omega
def GrRel (t : ByteArray) (n : Nat) (g i : Value) : Prop := ∃ k : Nat, k ≤ n ∧ i = .int .i64 (k : Int) ∧ g = .int .u64 ((dv (t.data.toList.take k) : Nat) : Int)
def SzRel (s : ByteArray) (w : World) (t v : Value) (wr : World) : Prop :=
 ∃ (r : ByteArray) (pre : List UInt8), s.data.toList = pre ++ r.data.toList ∧ (pre = [] ∨ r.size % 12 = 0) ∧ t = .string r ∧ LimF w.heap.size wr v (dig (dv pre)) ∧ Below w.heap.size w wr
theorem gr_step {t : ByteArray} {k : Nat} (h : k < t.size) (hd : ∀ c ∈ t.data.toList, isDig c = true) (hk : k < 12) :
  ((dv (t.data.toList.take (k + 1)) : Nat) : Int) = 10 * ((dv (t.data.toList.take k) : Nat) : Int) + ((t[k].toNat : Int) - 48) ∧ dv (t.data.toList.take k) < 100000000000 ∧ 48 ≤ t[k].toNat ∧ t[k].toNat ≤ 57 := by
 have hk' : k < t.data.toList.length := by simpa using h
 have e : t.data.toList[k] = t[k] := rfl
 have hc := hd t[k] (by rw [← e]; exact List.getElem_mem hk')
 simp only [isDig, Bool.and_eq_true, decide_eq_true_eq] at hc
 have hl := dv_lt (t.data.toList.take k) fun c hc => hd c (List.mem_of_mem_take hc)
 rw [List.length_take, Nat.min_eq_left (Nat.le_of_lt hk')] at hl
 have hp : 10 ^ k ≤ 10 ^ 11 := Nat.pow_le_pow_right (by omega) (by omega)
 refine ⟨?_, by omega, hc⟩
 rw [List.take_succ_eq_append_getElem hk', dv_snoc, e]
 omega
theorem sizeOf_any (s : ByteArray) (hs : s.size ≤ 5120) (hd : ∀ c ∈ s.data.toList, isDig c = true) (w : World) :
    Calls Tryz.prog 57 #[.string s] w fun e w' => (∃ v, e = .returned v ∧ LimF w.heap.size w' v (dig (dv s.data.toList))) ∧ Below w.heap.size w w' := by
  have HD := Lib.hid hd
  clear hd
  go_enter Tryz.func57, Tryz.ntmps57
  go_wp2
  go_loopw [0, 3] (fun t v wr => SzRel s w t v wr) (fun t _ _ => match t with | .string r => r.size | _ => 0)
  case atStart => exact ⟨s, [], rfl, .inl rfl, rfl, by rw [show dv [] = 0 from rfl, dig_zero]; exact LimF.nil _ _, Below.refl _ _⟩
  case round =>
    obtain ⟨r, pre, e, hm, rfl, hv, hB⟩ := hrel
    have HE := Lib.hid e
    have hsz : pre.length + r.size = s.size := by have := congrArg List.length e; simp at this; omega
    clear e
    by_cases h0 : 0 < r.size
    · obtain ⟨n, hn⟩ : ∃ n : Nat, n = (r.size - 1) % 12 + 1 := ⟨_, rfl⟩
      have hn' : ((r.size : Int) - 1) % 12 + 1 = (n : Int) := by omega
      have HN' := Lib.hid hn'
      have HN := Lib.hid hn
      have HM := Lib.hid hm
      have HV := Lib.hid hv
      have n1 : 0 < n := by omega
      have n2 : n ≤ 12 := by omega
      have n3 : n ≤ r.size := by omega
      clear hn hn' hm hv
      have HR := Lib.hid (fun c (hc : c ∈ r.data.toList) => HD.out c (by rw [HE.out]; exact List.mem_append.2 (.inr hc)))
      go_wp2
      rw [HN'.out]
      go_loop [5, 16] (fun g i => GrRel r n g i) (fun _ i => n - (intOf i).toNat)
      case atStart => exact ⟨0, Nat.zero_le _, rfl, rfl⟩
      case round =>
        obtain ⟨k, hk, rfl, rfl⟩ := hrel
        by_cases hkn : k < n
        · obtain ⟨e1, e2, e3, e4⟩ := gr_step (t := r) (k := k) (by omega) HR.out (by omega)
          have hkr : k < r.size := by omega
          obtain ⟨g, hg⟩ : ∃ g, g = dv (r.data.toList.take k) := ⟨_, rfl⟩
          rw [← hg] at e1 e2 ⊢
          obtain ⟨d, hd⟩ : ∃ d, d = r[k].toNat := ⟨_, rfl⟩
          rw [← hd] at e1 e3 e4
          have E1 := Lib.hid e1
          have HD2 := Lib.hid hd
          clear e1 hg hd
          go_wp2
          refine ⟨⟨k + 1, by omega, by go_num, ?_⟩, by simp [intOf]; omega⟩
          have hd := HD2.out
          rw [E1.out, ← hd]
          congr 1
          omega
        · have hkn' : k = n := by omega
          subst hkn'
          have hlr : r.data.toList.length = r.size := by simp
          have hlt : (r.data.toList.take k).length = k := by rw [List.length_take]; omega
          have hG1 := dv_lt (r.data.toList.take k) fun c hc => HR.out c (List.mem_of_mem_take hc)
          rw [hlt] at hG1
          have hG2 : 10 ^ k ≤ 10 ^ 12 := Nat.pow_le_pow_right (by omega) n2
          have hP1 := dv_lt pre fun c hc => HD.out c (by rw [HE.out]; exact List.mem_append.2 (.inl hc))
          have hP2 : (dig (dv pre)).length ≤ pre.length := (length_dig_le _ _).2 (Nat.lt_of_lt_of_le hP1 (Nat.pow_le_pow_left (by omega) _))
          have hval : dv (pre ++ r.data.toList.take k) = dv pre * 1000000000000 + dv (r.data.toList.take k) := by
            rw [dv_append, hlt]
            rcases HM.out with h | h
            · rw [h]; simp [dv]
            · rw [show k = 12 by have := HN.out; omega]
          have HVAL := Lib.hid hval
          obtain ⟨G, hG⟩ : ∃ G, G = dv (r.data.toList.take k) := ⟨_, rfl⟩
          rw [← hG] at hG1 ⊢
          have HG := Lib.hid hG
          have HLm := Lib.hid (fun W => limbsOf_any G (by omega) W)
          have hGl : (dig G).length ≤ 4 := (length_dig_le _ 4).2 (Nat.lt_of_lt_of_le hG1 (by omega))
          have HC := Lib.hid (fun vb W (h : Lim W u3 (dig (dv pre))) (g : Lim W vb (dig G)) => combine_any u3 vb (dig (dv pre)) (dig G) 1000000000000 1 (dig_Lm _) (dig_Lm _) (by omega) (by omega) (by omega) (by omega) (by omega) (by omega) (by omega) W h g)
          clear hlr hlt hG1 hG2 hP1 hP2 hval hG hGl
          go_wp2_with (first
            | (go_at_call 65; refine (HLm.out _).mono ?_; rintro e w2 ⟨⟨v2, rfl, hv2⟩, hb2⟩; have hu := HV.out.1.below hb2 (Nat.le_refl _); have hB2 := hB.trans (hb2.mono hB.size))
            | (go_at_call 131; refine (HC.out _ _ hu hv2.1).mono ?_; rintro e w3 ⟨⟨v3, rfl, hv3⟩, hb3⟩; have hB3 := hB2.trans (hb3.mono hB2.size); clear hb3 hu hv2 hb2))
          have hl := Lib.extract_to_end r k
          have hsz2 : (r.extract k r.size).size = r.size - k := by simp
          refine ⟨⟨r.extract k r.size, pre ++ r.data.toList.take k, ?_, .inr ?_, rfl, ?_, hB3⟩, ?_⟩
          · rw [HE.out, hl, List.append_assoc, List.take_append_drop]
          · have := HN.out
            rw [hsz2]; omega
          · have e : (((val (dig (dv pre)) : Nat) : Int) * 1000000000000 + ((val (dig G) : Nat) : Int) * 1).toNat = dv (pre ++ r.data.toList.take k) := by
              rw [val_dig, val_dig, HVAL.out, ← HG.out]; omega
            rw [e] at hv3
            exact hv3.mono hB2.size
          · show (r.extract k r.size).size < r.size
            omega
    · have HV := Lib.hid hv
      clear hv
      go_wp2
      go_ret
      have hlr : r.data.toList.length = r.size := by simp
      have e0 : r.data.toList = [] := List.length_eq_zero_iff.1 (by omega)
      have e := HE.out
      rw [e0, List.append_nil] at e
      rw [e]
      exact ⟨⟨_, rfl, HV.out⟩, hB⟩
end Go.Proofs.YtmbcnfogjncdaaaGreat
namespace Go.Proofs.YtmbcnfogjncdaaaGreat
open Go.RowKit Wh
theorem gcd_le_left (a b : Int) (h : a ≠ 0) : Int.gcd a b ≤ a.natAbs := Nat.gcd_le_left _ (Int.natAbs_pos.2 h)
end Go.Proofs.YtmbcnfogjncdaaaGreat
