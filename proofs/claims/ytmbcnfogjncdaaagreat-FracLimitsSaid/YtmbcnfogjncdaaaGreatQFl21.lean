/- A part of the proofs about fractions. -/
import Derived.KernelRfl
import Derived.Test.YtmbcnfogjncdaaaGreatQFl1
import Derived.Test.YtmbcnfogjncdaaaGreatQFl20
set_option maxRecDepth 100000
set_option maxHeartbeats 4000000
namespace Go.Proofs.YtmbcnfogjncdaaaGreat
open Go.RowKit Wh
theorem factor_0 (q u : Rat) (b : Bool) (a : Option Addr) (k c : Nat) (b' : Bool) (a' : Option Addr) (k' c' : Nat) (ub : Bool) (ua : Option Addr) (uk uc : Nat) (ub' : Bool) (ua' : Option Addr) (uk' uc' : Nat) (hp : Fz 256 256 q) (hu : Fz 256 256 u) (hu0 : 0 < u.num) (m : Int) (h0 : q.num * (u.den : Int) % ((q.den : Int) * u.num) = 0) (w : World) (h : Fra w (.agg #[.bool b, .slice a k c, .bool b', .slice a' k' c']) q) (g : Fra w (.agg #[.bool ub, .slice ua uk uc, .bool ub', .slice ua' uk' uc']) u) :
  Calls Tryz.prog 116 #[.agg #[.bool b, .slice a k c, .bool b', .slice a' k' c'], .agg #[.bool ub, .slice ua uk uc, .bool ub', .slice ua' uk' uc'], .int .u8 m] w fun e w' => (∃ v, e = .returned v ∧ Num w' v (q.num * (u.den : Int) / ((q.den : Int) * u.num))) ∧ Below w.heap.size w w' := by
 obtain ⟨h1, h1d⟩ := hp
 obtain ⟨h2, h2d⟩ := hu
 have HQ := Lib.hid (fun W (hW : Below w.heap.size w W) => frquotient_any q u b a k c b' a' k' c' ub ua uk uc ub' ua' uk' uc' ⟨h1, h1d⟩ ⟨h2, h2d⟩ W (h.below hW (Nat.le_refl _)) (g.below hW (Nat.le_refl _)))
 have hn := Sz.mul h1 h2d
 have hd := Sz.mul h1d h2
 have hd0 : 0 < (q.den : Int) * u.num := Int.mul_pos (by have := q.den_pos; omega) hu0
 clear h g h1 h1d h2 h2d hu0
 generalize q.num * (u.den : Int) = n at *
 generalize (q.den : Int) * u.num = d at *
 have hm0 := Int.emod_nonneg n (show d ≠ 0 by omega)
 have hm1 := Int.emod_lt_of_pos n hd0
 have hm2 := Int.mul_ediv_add_emod n d
 have hf : Sz 512 (n / d) := hn.le (Int.natAbs_ediv_le_natAbs n d)
 have hr : Sz 512 (n % d) := hd.le (by omega)
 generalize hfl : n / d = fl at *
 generalize hre : n % d = re at *
 rw [Int.mul_comm] at hm2
 have HD := Lib.hid (fun va vb W (h : Num W va n) (g : Num W vb d) => frdivide_known va vb n d fl re ⟨hm2.symm, .inl ⟨hm0, hm1⟩⟩ (hn.mono (by decide)) (hd.mono (by decide)) (by omega) W h g)
 have hz := fun v W (h : Num W v re) => isZero_num v re W h
 rw [show decide (re = 0) = true from decide_eq_true h0] at hz
 have HZ := Lib.hid hz
 clear hz hn hd hd0 hm0 hm1 hm2 hf hr hfl hre
 have hB := Below.refl w.heap.size w
 obtain ⟨al, xx, hN⟩ := mk hB #[.bool b, .slice a k c, .bool b', .slice a' k' c'] 101
 replace hB := hN; clear al hN
 try simp only [World.size_alloc] at xx
 obtain ⟨al, xu, hN⟩ := mk hB #[.bool ub, .slice ua uk uc, .bool ub', .slice ua' uk' uc'] 101
 replace xx := xx.on al; replace hB := hN; clear al hN
 try simp only [World.size_alloc] at xu
 obtain ⟨al, xr, hN⟩ := mk hB #[.bool false, .slice none 0 0] 24
 replace xx := xx.on al; replace xu := xu.on al; replace hB := hN; clear al hN
 try simp only [World.size_alloc] at xr
 go_enter Tryz.func116, Tryz.ntmps116
 have px := xx.all4
 have pu := xu.all4
 have pr := xr.all2
 go_wp2_with fail
 clear px pu pr
 refine (HQ.out _ hB).mono ?_
 rintro e w1 ⟨⟨vn, vd, rfl, gn, gd⟩, hb⟩
 obtain ⟨b1, a1, k1, c1, rfl⟩ := gn.num.opened
 obtain ⟨b2, a2, k2, c2, rfl⟩ := gd.num.opened
 replace gn := gn.num; replace gd := gd.num; replace xx := xx.on hb; replace xu := xu.on hb; replace xr := xr.on hb
 have hz1 := hb.size
 try simp at hz1
 replace hB := hB.trans (hb.mono hB.size); clear hb xu HQ
 obtain ⟨al, xn, hN⟩ := mk hB #[.bool b1, .slice a1 k1 c1] 24
 replace xx := xx.on al; replace xr := xr.on al; replace gn := gn.on al; replace gd := gd.on al; replace hB := hN; clear al hN
 try simp only [World.size_alloc] at xn
 obtain ⟨al, xd, hN⟩ := mk hB #[.bool b2, .slice a2 k2 c2] 24
 replace xx := xx.on al; replace xr := xr.on al; replace xn := xn.on al; replace gn := gn.on al; replace gd := gd.on al; replace hB := hN; clear al hN
 try simp only [World.size_alloc] at xd
 have px := xx.all4
 have pr := xr.all2
 have pn := xn.all2
 have pd := xd.all2
 go_wp2_with fail
 clear px pr pn pd
 refine (HD.out _ _ _ gn gd).mono ?_
 rintro e w2 ⟨⟨vq, vr, rfl, gf, gr⟩, hb⟩
 obtain ⟨b3, a3, k3, c3, rfl⟩ := gf.num.opened
 obtain ⟨b4, a4, k4, c4, rfl⟩ := gr.num.opened
 replace gf := gf.num; replace gr := gr.num; replace xx := xx.on hb; replace xr := xr.on hb; replace xn := xn.on hb; replace xd := xd.on hb; replace gn := gn.on hb; replace gd := gd.on hb
 have hz2 := hb.size
 try simp at hz2
 replace hB := hB.trans (hb.mono hB.size); clear hb gn HD xn
 obtain ⟨al, xf, hN⟩ := mk hB #[.bool b3, .slice a3 k3 c3] 24
 replace xx := xx.on al; replace xr := xr.on al; replace xd := xd.on al; replace gd := gd.on al; replace gf := gf.on al; replace gr := gr.on al; replace hB := hN; clear al hN
 try simp only [World.size_alloc] at xf
 obtain ⟨al, xe, hN⟩ := mk hB #[.bool b4, .slice a4 k4 c4] 24
 replace xx := xx.on al; replace xr := xr.on al; replace xd := xd.on al; replace xf := xf.on al; replace gd := gd.on al; replace gf := gf.on al; replace gr := gr.on al; replace hB := hN; clear al hN
 try simp only [World.size_alloc] at xe
 have px := xx.all4
 have pr := xr.all2
 have pd := xd.all2
 have pf := xf.all2
 have pe := xe.all2
 go_wp2_with fail
 clear px pr pd pf pe
 refine (HZ.out _ _ gr).mono ?_
 rintro e w3 ⟨rfl, hb⟩
 replace xx := xx.on hb; replace xr := xr.on hb; replace xd := xd.on hb; replace xf := xf.on hb; replace xe := xe.on hb; replace gd := gd.on hb; replace gf := gf.on hb; replace gr := gr.on hb
 have hz3 := hb.size
 try simp at hz3
 replace hB := hB.trans (hb.mono hB.size); clear hb HZ
 have px := xx.all4
 have pr := xr.all2
 have pd := xd.all2
 have pf := xf.all2
 have pe := xe.all2
 go_wp2_with fail
 clear px pr pd pf pe xx xd xf xe gd gr; replace gf := gf.setB xr rfl 0 (.bool b3)
 replace xr : Bk _ (w.heap.size + 1 + 1) #[.bool b3, .slice none 0 0] _ := xr.put 0 (.bool b3)
 replace hB := hB.setCell (p := ⟨w.heap.size + 1 + 1, 0, none⟩) (by first | omega | (simp; omega) | simp) (.bool b3); replace gf := gf.setB xr rfl 1 (.slice a3 k3 c3)
 replace xr : Bk _ (w.heap.size + 1 + 1) #[.bool b3, .slice a3 k3 c3] _ := xr.put 1 (.slice a3 k3 c3)
 replace hB := hB.setCell (p := ⟨w.heap.size + 1 + 1, 1, none⟩) (by first | omega | (simp; omega) | simp) (.slice a3 k3 c3)
 generalize ((w3.setCell ⟨w.heap.size + 1 + 1, 0, none⟩ (.bool b3)).setCell ⟨w.heap.size + 1 + 1, 1, none⟩ (.slice a3 k3 c3)) = WF at *
 have pr := xr.all2
 exact bodyPost_ret (v := .agg #[.bool b3, .slice a3 k3 c3]) (by simp [results, Tryz.results116, go_sem, pr]) rfl ⟨⟨_, rfl, gf⟩, hB⟩
theorem factor_1true (q u : Rat) (b : Bool) (a : Option Addr) (k c : Nat) (b' : Bool) (a' : Option Addr) (k' c' : Nat) (ub : Bool) (ua : Option Addr) (uk uc : Nat) (ub' : Bool) (ua' : Option Addr) (uk' uc' : Nat) (hp : Fz 256 256 q) (hu : Fz 256 256 u) (hu0 : 0 < u.num) (h0 : q.num * (u.den : Int) % ((q.den : Int) * u.num) ≠ 0) (hrup : rup 1 b (q.num * (u.den : Int) % ((q.den : Int) * u.num) + q.num * (u.den : Int) % ((q.den : Int) * u.num)) ((q.den : Int) * u.num) (q.num * (u.den : Int) / ((q.den : Int) * u.num)) = true) (w : World) (h : Fra w (.agg #[.bool b, .slice a k c, .bool b', .slice a' k' c']) q) (g : Fra w (.agg #[.bool ub, .slice ua uk uc, .bool ub', .slice ua' uk' uc']) u) :
  Calls Tryz.prog 116 #[.agg #[.bool b, .slice a k c, .bool b', .slice a' k' c'], .agg #[.bool ub, .slice ua uk uc, .bool ub', .slice ua' uk' uc'], .int .u8 1] w fun e w' => (∃ v, e = .returned v ∧ Num w' v (q.num * (u.den : Int) / ((q.den : Int) * u.num) + 1)) ∧ Below w.heap.size w w' := by
 obtain ⟨h1, h1d⟩ := hp
 obtain ⟨h2, h2d⟩ := hu
 have HQ := Lib.hid (fun W (hW : Below w.heap.size w W) => frquotient_any q u b a k c b' a' k' c' ub ua uk uc ub' ua' uk' uc' ⟨h1, h1d⟩ ⟨h2, h2d⟩ W (h.below hW (Nat.le_refl _)) (g.below hW (Nat.le_refl _)))
 have hn := Sz.mul h1 h2d
 have hd := Sz.mul h1d h2
 have hd0 : 0 < (q.den : Int) * u.num := Int.mul_pos (by have := q.den_pos; omega) hu0
 clear h g h1 h1d h2 h2d hu0
 generalize q.num * (u.den : Int) = n at *
 generalize (q.den : Int) * u.num = d at *
 have hm0 := Int.emod_nonneg n (show d ≠ 0 by omega)
 have hm1 := Int.emod_lt_of_pos n hd0
 have hm2 := Int.mul_ediv_add_emod n d
 have hf : Sz 512 (n / d) := hn.le (Int.natAbs_ediv_le_natAbs n d)
 have hr : Sz 512 (n % d) := hd.le (by omega)
 generalize hfl : n / d = fl at *
 generalize hre : n % d = re at *
 rw [Int.mul_comm] at hm2
 have HD := Lib.hid (fun va vb W (h : Num W va n) (g : Num W vb d) => frdivide_known va vb n d fl re ⟨hm2.symm, .inl ⟨hm0, hm1⟩⟩ (hn.mono (by decide)) (hd.mono (by decide)) (by omega) W h g)
 have hz := fun v W (h : Num W v re) => isZero_num v re W h
 rw [show decide (re = 0) = false from decide_eq_false h0] at hz
 have HZ := Lib.hid hz
 clear hz
 have hr2 : Sz 513 (re + re) := Sz.add hr hr
 have hf1 : Sz 513 (fl + 1) := Sz.add hf (Sz.small (z := 1) (by decide))
 have HP := Lib.hid (fun va vb W (h : Num W va re) (g : Num W vb re) => frplus_any va vb re re (re + re) rfl (hr.mono (by decide)) (hr.mono (by decide)) (hr2.mono (by decide)) W h g)
 generalize hrr : re + re = r2 at *
 have HC := Lib.hid (fun va vb W (h : Num W va r2) (g : Num W vb d) => Cmp_any va vb r2 d (hr2.mono (by decide)) (hd.mono (by decide)) W h g)
 have HS := Lib.hid (fun va vb W (h : Num W va fl) (g : Num W vb 1) => frplus_any va vb fl 1 (fl + 1) rfl (hf.mono (by decide)) ((Sz.small (z := 1) (by decide)).mono (by decide)) (hf1.mono (by decide)) W h g)
 have H1 := Lib.hid (fun W => FromInt_any 1 (by decide) (by decide) W)
 obtain ⟨cm, hcm⟩ : ∃ x, x = cmpI r2 d := ⟨_, rfl⟩
 rw [← hcm] at HC
 have hM := fun bf af kf cf B W xb => mode1_any b a k c b' a' k' c' bf af kf cf cm B W xb
 simp only [show Ending.returned (.bool (b)) = Ending.returned (.bool true) from congrArg (fun x => Ending.returned (.bool x)) (show (b) = true from hrup)] at hM
 have HM := Lib.hid hM
 clear hM hcm hrr hr2 hf1 hrup hn hd hd0 hm0 hm1 hm2 hf hr hfl hre
 have hB := Below.refl w.heap.size w
 obtain ⟨al, xx, hN⟩ := mk hB #[.bool b, .slice a k c, .bool b', .slice a' k' c'] 101
 replace hB := hN; clear al hN
 try simp only [World.size_alloc] at xx
 obtain ⟨al, xu, hN⟩ := mk hB #[.bool ub, .slice ua uk uc, .bool ub', .slice ua' uk' uc'] 101
 replace xx := xx.on al; replace hB := hN; clear al hN
 try simp only [World.size_alloc] at xu
 obtain ⟨al, xr, hN⟩ := mk hB #[.bool false, .slice none 0 0] 24
 replace xx := xx.on al; replace xu := xu.on al; replace hB := hN; clear al hN
 try simp only [World.size_alloc] at xr
 go_enter Tryz.func116, Tryz.ntmps116
 have px := xx.all4
 have pu := xu.all4
 have pr := xr.all2
 go_wp2_with fail
 clear px pu pr
 refine (HQ.out _ hB).mono ?_
 rintro e w1 ⟨⟨vn, vd, rfl, gn, gd⟩, hb⟩
 obtain ⟨b1, a1, k1, c1, rfl⟩ := gn.num.opened
 obtain ⟨b2, a2, k2, c2, rfl⟩ := gd.num.opened
 replace gn := gn.num; replace gd := gd.num; replace xx := xx.on hb; replace xu := xu.on hb; replace xr := xr.on hb
 have hz1 := hb.size
 try simp at hz1
 replace hB := hB.trans (hb.mono hB.size); clear hb xu HQ
 obtain ⟨al, xn, hN⟩ := mk hB #[.bool b1, .slice a1 k1 c1] 24
 replace xx := xx.on al; replace xr := xr.on al; replace gn := gn.on al; replace gd := gd.on al; replace hB := hN; clear al hN
 try simp only [World.size_alloc] at xn
 obtain ⟨al, xd, hN⟩ := mk hB #[.bool b2, .slice a2 k2 c2] 24
 replace xx := xx.on al; replace xr := xr.on al; replace xn := xn.on al; replace gn := gn.on al; replace gd := gd.on al; replace hB := hN; clear al hN
 try simp only [World.size_alloc] at xd
 have px := xx.all4
 have pr := xr.all2
 have pn := xn.all2
 have pd := xd.all2
 go_wp2_with fail
 clear px pr pn pd
 refine (HD.out _ _ _ gn gd).mono ?_
 rintro e w2 ⟨⟨vq, vr, rfl, gf, gr⟩, hb⟩
 obtain ⟨b3, a3, k3, c3, rfl⟩ := gf.num.opened
 obtain ⟨b4, a4, k4, c4, rfl⟩ := gr.num.opened
 replace gf := gf.num; replace gr := gr.num; replace xx := xx.on hb; replace xr := xr.on hb; replace xn := xn.on hb; replace xd := xd.on hb; replace gn := gn.on hb; replace gd := gd.on hb
 have hz2 := hb.size
 try simp at hz2
 replace hB := hB.trans (hb.mono hB.size); clear hb gn HD xn
 obtain ⟨al, xf, hN⟩ := mk hB #[.bool b3, .slice a3 k3 c3] 24
 replace xx := xx.on al; replace xr := xr.on al; replace xd := xd.on al; replace gd := gd.on al; replace gf := gf.on al; replace gr := gr.on al; replace hB := hN; clear al hN
 try simp only [World.size_alloc] at xf
 obtain ⟨al, xe, hN⟩ := mk hB #[.bool b4, .slice a4 k4 c4] 24
 replace xx := xx.on al; replace xr := xr.on al; replace xd := xd.on al; replace xf := xf.on al; replace gd := gd.on al; replace gf := gf.on al; replace gr := gr.on al; replace hB := hN; clear al hN
 try simp only [World.size_alloc] at xe
 have px := xx.all4
 have pr := xr.all2
 have pd := xd.all2
 have pf := xf.all2
 have pe := xe.all2
 go_wp2_with fail
 clear px pr pd pf pe
 refine (HZ.out _ _ gr).mono ?_
 rintro e w3 ⟨rfl, hb⟩
 replace xx := xx.on hb; replace xr := xr.on hb; replace xd := xd.on hb; replace xf := xf.on hb; replace xe := xe.on hb; replace gd := gd.on hb; replace gf := gf.on hb; replace gr := gr.on hb
 have hz3 := hb.size
 try simp at hz3
 replace hB := hB.trans (hb.mono hB.size); clear hb HZ
 have px := xx.all4
 have pr := xr.all2
 have pd := xd.all2
 have pf := xf.all2
 have pe := xe.all2
 go_wp2_with fail
 clear px pr pd pf pe
 have qx := xx.lt
 have qf := xf.lt
 have qe := xe.lt
 have qd := xd.lt
 obtain ⟨gx0, gx1, gx2, gx3⟩ := xx.cells4
 obtain ⟨gf0, gf1⟩ := xf.cells2
 obtain ⟨ge0, ge1⟩ := xe.cells2
 obtain ⟨gd0, gd1⟩ := xd.cells2
 refine wp_region_noPanic ?_
 refine wp_region_held_drew (S := (fun w' => (w'.cell? ⟨w.heap.size, 0, none⟩ = some (.bool b) ∧ w'.cell? ⟨w.heap.size, 1, none⟩ = some (.slice a k c) ∧ w'.cell? ⟨w.heap.size, 2, none⟩ = some (.bool b') ∧ w'.cell? ⟨w.heap.size, 3, none⟩ = some (.slice a' k' c')) ∧ w'.cell? ⟨w2.heap.size, 0, none⟩ = some (.bool b3) ∧ w'.cell? ⟨w2.heap.size, 1, none⟩ = some (.slice a3 k3 c3) ∧ w'.cell? ⟨w2.heap.size + 1, 0, none⟩ = some (.bool b4) ∧ w'.cell? ⟨w2.heap.size + 1, 1, none⟩ = some (.slice a4 k4 c4) ∧ w'.cell? ⟨w1.heap.size + 1, 0, none⟩ = some (.bool b2) ∧ w'.cell? ⟨w1.heap.size + 1, 1, none⟩ = some (.slice a2 k2 c2))) (by kernel_rfl) ⟨⟨gx0, gx1, gx2, gx3⟩, gf0, gf1, ge0, ge1, gd0, gd1⟩ (fun hR0 => ?_)
 change wpAnyH _ _ _ _ _ 12 #[false, false, false, false, false, false, false, false, false, false, false, false] _ _
 clear gx0 gx1 gx2 gx3 gf0 gf1 ge0 ge1 gd0 gd1
 refine tz 0 ?_
 (try simp only [Act.put, sa, List.set])
 refine tz 1 ?_
 (try simp only [Act.put, sa, List.set])
 refine tz 2 ?_
 (try simp only [Act.put, sa, List.set])
 refine tz 3 ?_
 (try simp only [Act.put, sa, List.set])
 refine tz 5 ?_
 (try simp only [Act.put, sa, List.set])
 refine tz 9 ?_
 (try simp only [Act.put, sa, List.set])
 refine rz 4 fun K hK => ?_
 go_simp
 go_at_call 147; have hBd := hB.drew; refine (HP.out _ _ w3.drew gr gr).mono ?_; rintro e w4 ⟨⟨v5, rfl, gs⟩, hb⟩; replace hb := (Below.refl w3.heap.size w3).drew.trans hb; obtain ⟨b5, a5, k5, c5, rfl⟩ := gs.num.opened; replace gs := gs.num; replace xx := xx.on hb; replace xr := xr.on hb; replace xd := xd.on hb; replace xf := xf.on hb; replace xe := xe.on hb; replace gd := gd.on hb; replace gf := gf.on hb; replace gr := gr.on hb; replace hB := hB.trans (hb.mono hB.size); have hz4 := hb.size
 (try go_wp2_with fail)
 refine hK.out _ _ (⟨keep4 hb qx hR0.1, (hb.cell (p := ⟨w2.heap.size, 0, none⟩) qf).trans hR0.2.1, (hb.cell (p := ⟨w2.heap.size, 1, none⟩) qf).trans hR0.2.2.1, (hb.cell (p := ⟨w2.heap.size + 1, 0, none⟩) qe).trans hR0.2.2.2.1, (hb.cell (p := ⟨w2.heap.size + 1, 1, none⟩) qe).trans hR0.2.2.2.2.1, (hb.cell (p := ⟨w1.heap.size + 1, 0, none⟩) qd).trans hR0.2.2.2.2.2.1, (hb.cell (p := ⟨w1.heap.size + 1, 1, none⟩) qd).trans hR0.2.2.2.2.2.2⟩) (fun hR1 => ?_)
 clear hK K hR0
 (try simp only [Act.put, sa, List.set])
 replace qx := Nat.lt_of_lt_of_le qx hz4; replace qf := Nat.lt_of_lt_of_le qf hz4; replace qe := Nat.lt_of_lt_of_le qe hz4; replace qd := Nat.lt_of_lt_of_le qd hz4; clear hb hBd
 refine rz 6 fun K hK => ?_
 go_simp
 go_at_call 74; have hBd := hB; refine (HC.out _ _ _ gs gd).mono ?_; rintro e w5 ⟨rfl, hb⟩; replace xx := xx.on hb; replace xr := xr.on hb; replace xd := xd.on hb; replace xf := xf.on hb; replace xe := xe.on hb; replace gd := gd.on hb; replace gf := gf.on hb; replace gs := gs.on hb; replace hB := hB.trans (hb.mono hB.size); have hz5 := hb.size
 (try go_wp2_with fail)
 refine hK.out _ _ (⟨keep4 hb qx hR1.1, (hb.cell (p := ⟨w2.heap.size, 0, none⟩) qf).trans hR1.2.1, (hb.cell (p := ⟨w2.heap.size, 1, none⟩) qf).trans hR1.2.2.1, (hb.cell (p := ⟨w2.heap.size + 1, 0, none⟩) qe).trans hR1.2.2.2.1, (hb.cell (p := ⟨w2.heap.size + 1, 1, none⟩) qe).trans hR1.2.2.2.2.1, (hb.cell (p := ⟨w1.heap.size + 1, 0, none⟩) qd).trans hR1.2.2.2.2.2.1, (hb.cell (p := ⟨w1.heap.size + 1, 1, none⟩) qd).trans hR1.2.2.2.2.2.2⟩) (fun hR2 => ?_)
 clear hK K hR1
 (try simp only [Act.put, sa, List.set])
 replace qx := Nat.lt_of_lt_of_le qx hz5; replace qf := Nat.lt_of_lt_of_le qf hz5; replace qe := Nat.lt_of_lt_of_le qe hz5; replace qd := Nat.lt_of_lt_of_le qd hz5; clear hb hBd
 refine tz 7 ?_
 (try simp only [Act.put, sa, List.set])
 refine rz 8 fun K hK => ?_
 go_simp
 go_at_call 160; have hBd := hB; refine (modes_any _ _ _ _ _ _ _ _ _ _ _ _ _ _).mono ?_; rintro e w6 ⟨rfl, xb, hb⟩; replace xx := xx.on hb; replace xr := xr.on hb; replace xd := xd.on hb; replace xf := xf.on hb; replace xe := xe.on hb; replace gf := gf.on hb; replace hB := hB.trans (hb.mono hB.size); have hz6 := hb.size
 (try go_wp2_with fail)
 refine hK.out _ _ (⟨keep4 hb qx hR2.1, (hb.cell (p := ⟨w2.heap.size, 0, none⟩) qf).trans hR2.2.1, (hb.cell (p := ⟨w2.heap.size, 1, none⟩) qf).trans hR2.2.2.1, (hb.cell (p := ⟨w2.heap.size + 1, 0, none⟩) qe).trans hR2.2.2.2.1, (hb.cell (p := ⟨w2.heap.size + 1, 1, none⟩) qe).trans hR2.2.2.2.2.1, (hb.cell (p := ⟨w1.heap.size + 1, 0, none⟩) qd).trans hR2.2.2.2.2.2.1, (hb.cell (p := ⟨w1.heap.size + 1, 1, none⟩) qd).trans hR2.2.2.2.2.2.2⟩) (fun hR3 => ?_)
 clear hK K hR2
 (try simp only [Act.put, sa, List.set])
 replace qx := Nat.lt_of_lt_of_le qx hz6; replace qf := Nat.lt_of_lt_of_le qf hz6; replace qe := Nat.lt_of_lt_of_le qe hz6; replace qd := Nat.lt_of_lt_of_le qd hz6; clear hb hBd
 refine tk (i := 10) (v := .func (.func 201) #[] #[.pointer (some ⟨w5.heap.size, 0, none⟩)]) rfl (by kernel_rfl) (fun _ _ _ h => h) (by rfl) ?_ (by assumption) ?_
 · (intro w hSw; (try dsimp only at hSw); kernel_rfl)
 (try simp only [Act.put, sa, List.set])
 refine tz 11 ?_
 (try simp only [Act.put, sa, List.set])
 refine wpAnyH_done (by kernel_rfl) ?_ _
 refine NoPanic.normal ?_
 clear hR3 qx qf qe qd xe xd xx
 have pr := xr.all2
 have pf := xf.all2
 have pb := xb.all7
 go_wp2_with fail
 clear pr pf pb
 refine (HM.out _ _ _ _ _ _ xb).mono ?_
 rintro e w7 ⟨rfl, hb⟩
 replace xr := xr.on hb; replace xf := xf.on hb; replace xb := xb.on hb; replace gf := gf.on hb
 have hz7 := hb.size
 try simp at hz7
 replace hB := hB.trans (hb.mono hB.size); clear hb xb
 have pr := xr.all2
 have pf := xf.all2
 go_wp2_with fail
 clear pr pf
 have qf := xf.lt
 obtain ⟨gf0, gf1⟩ := xf.cells2
 refine wp_region_noPanic ?_
 refine wp_region_held_drew (S := (fun w' => w'.cell? ⟨w2.heap.size, 0, none⟩ = some (.bool b3) ∧ w'.cell? ⟨w2.heap.size, 1, none⟩ = some (.slice a3 k3 c3))) (by kernel_rfl) ⟨gf0, gf1⟩ (fun hR0 => ?_)
 change wpAnyH _ _ _ _ _ 4 #[false, false, false, false] _ _
 clear gf0 gf1
 refine tz 0 ?_
 (try simp only [Act.put, sa, List.set])
 refine rz 1 fun K hK => ?_
 go_simp
 go_at_call 19; have hBd := hB.drew; refine (H1.out _).mono ?_; rintro e w8 ⟨⟨v7, rfl, o1⟩, hb⟩; replace hb := (Below.refl w7.heap.size w7).drew.trans hb; obtain ⟨b7, a7, k7, c7, rfl⟩ := o1.num.opened; replace o1 := o1.num; replace xr := xr.on hb; replace xf := xf.on hb; replace gf := gf.on hb; replace hB := hB.trans (hb.mono hB.size); have hz8 := hb.size
 (try go_wp2_with fail)
 refine hK.out _ _ (⟨(hb.cell (p := ⟨w2.heap.size, 0, none⟩) qf).trans hR0.1, (hb.cell (p := ⟨w2.heap.size, 1, none⟩) qf).trans hR0.2⟩) (fun hR1 => ?_)
 clear hK K hR0
 (try simp only [Act.put, sa, List.set])
 replace qf := Nat.lt_of_lt_of_le qf hz8; clear hb hBd
 refine rz 2 fun K hK => ?_
 go_simp
 go_at_call 147; have hBd := hB; refine (HS.out _ _ _ gf o1).mono ?_; rintro e w9 ⟨⟨v8, rfl, o2⟩, hb⟩; obtain ⟨b8, a8, k8, c8, rfl⟩ := o2.num.opened; replace o2 := o2.num; replace xr := xr.on hb; replace xf := xf.on hb; replace hB := hB.trans (hb.mono hB.size); have hz9 := hb.size
 (try go_wp2_with fail)
 refine hK.out _ _ (⟨(hb.cell (p := ⟨w2.heap.size, 0, none⟩) qf).trans hR1.1, (hb.cell (p := ⟨w2.heap.size, 1, none⟩) qf).trans hR1.2⟩) (fun hR2 => ?_)
 clear hK K hR1
 (try simp only [Act.put, sa, List.set])
 replace qf := Nat.lt_of_lt_of_le qf hz9; clear hb hBd
 have pr := xr.all2
 refine rz 3 fun K hK => ?_
 go_simp
 refine hK.out _ _ (⟨cell_store hR2.1 (by omega), cell_store hR2.2 (by omega)⟩) (fun hR3 => ?_)
 clear hK K hR2
 (try simp only [Act.put, sa, List.set])
 clear pr; replace o2 := o2.setB xr rfl 0 (.bool b8); replace xf := xf.put_other (w.heap.size + 1 + 1) 0 (.bool b8) (by omega)
 replace xr : Bk _ (w.heap.size + 1 + 1) #[.bool b8, .slice none 0 0] _ := xr.put 0 (.bool b8)
 replace hB := hB.setCell (p := ⟨w.heap.size + 1 + 1, 0, none⟩) (by first | omega | (simp; omega) | simp) (.bool b8); replace o2 := o2.setB xr rfl 1 (.slice a8 k8 c8); replace xf := xf.put_other (w.heap.size + 1 + 1) 1 (.slice a8 k8 c8) (by omega)
 replace xr : Bk _ (w.heap.size + 1 + 1) #[.bool b8, .slice a8 k8 c8] _ := xr.put 1 (.slice a8 k8 c8)
 replace hB := hB.setCell (p := ⟨w.heap.size + 1 + 1, 1, none⟩) (by first | omega | (simp; omega) | simp) (.slice a8 k8 c8)
 refine wpAnyH_done (by kernel_rfl) ?_ _
 refine NoPanic.normal ?_
 clear hR3 qf xf
 have pr := xr.all2
 go_wp2
 clear pr
 generalize ((w9.setCell ⟨w.heap.size + 1 + 1, 0, none⟩ (.bool b8)).setCell ⟨w.heap.size + 1 + 1, 1, none⟩ (.slice a8 k8 c8)) = WF at *
 have pr := xr.all2
 exact bodyPost_ret (v := .agg #[.bool b8, .slice a8 k8 c8]) (by simp [results, Tryz.results116, go_sem, pr]) rfl ⟨⟨_, rfl, o2⟩, hB⟩
theorem factor_1false (q u : Rat) (b : Bool) (a : Option Addr) (k c : Nat) (b' : Bool) (a' : Option Addr) (k' c' : Nat) (ub : Bool) (ua : Option Addr) (uk uc : Nat) (ub' : Bool) (ua' : Option Addr) (uk' uc' : Nat) (hp : Fz 256 256 q) (hu : Fz 256 256 u) (hu0 : 0 < u.num) (h0 : q.num * (u.den : Int) % ((q.den : Int) * u.num) ≠ 0) (hrup : rup 1 b (q.num * (u.den : Int) % ((q.den : Int) * u.num) + q.num * (u.den : Int) % ((q.den : Int) * u.num)) ((q.den : Int) * u.num) (q.num * (u.den : Int) / ((q.den : Int) * u.num)) = false) (w : World) (h : Fra w (.agg #[.bool b, .slice a k c, .bool b', .slice a' k' c']) q) (g : Fra w (.agg #[.bool ub, .slice ua uk uc, .bool ub', .slice ua' uk' uc']) u) :
  Calls Tryz.prog 116 #[.agg #[.bool b, .slice a k c, .bool b', .slice a' k' c'], .agg #[.bool ub, .slice ua uk uc, .bool ub', .slice ua' uk' uc'], .int .u8 1] w fun e w' => (∃ v, e = .returned v ∧ Num w' v (q.num * (u.den : Int) / ((q.den : Int) * u.num))) ∧ Below w.heap.size w w' := by
 obtain ⟨h1, h1d⟩ := hp
 obtain ⟨h2, h2d⟩ := hu
 have HQ := Lib.hid (fun W (hW : Below w.heap.size w W) => frquotient_any q u b a k c b' a' k' c' ub ua uk uc ub' ua' uk' uc' ⟨h1, h1d⟩ ⟨h2, h2d⟩ W (h.below hW (Nat.le_refl _)) (g.below hW (Nat.le_refl _)))
 have hn := Sz.mul h1 h2d
 have hd := Sz.mul h1d h2
 have hd0 : 0 < (q.den : Int) * u.num := Int.mul_pos (by have := q.den_pos; omega) hu0
 clear h g h1 h1d h2 h2d hu0
 generalize q.num * (u.den : Int) = n at *
 generalize (q.den : Int) * u.num = d at *
 have hm0 := Int.emod_nonneg n (show d ≠ 0 by omega)
 have hm1 := Int.emod_lt_of_pos n hd0
 have hm2 := Int.mul_ediv_add_emod n d
 have hf : Sz 512 (n / d) := hn.le (Int.natAbs_ediv_le_natAbs n d)
 have hr : Sz 512 (n % d) := hd.le (by omega)
 generalize hfl : n / d = fl at *
 generalize hre : n % d = re at *
 rw [Int.mul_comm] at hm2
 have HD := Lib.hid (fun va vb W (h : Num W va n) (g : Num W vb d) => frdivide_known va vb n d fl re ⟨hm2.symm, .inl ⟨hm0, hm1⟩⟩ (hn.mono (by decide)) (hd.mono (by decide)) (by omega) W h g)
 have hz := fun v W (h : Num W v re) => isZero_num v re W h
 rw [show decide (re = 0) = false from decide_eq_false h0] at hz
 have HZ := Lib.hid hz
 clear hz
 have hr2 : Sz 513 (re + re) := Sz.add hr hr
 have hf1 : Sz 513 (fl + 1) := Sz.add hf (Sz.small (z := 1) (by decide))
 have HP := Lib.hid (fun va vb W (h : Num W va re) (g : Num W vb re) => frplus_any va vb re re (re + re) rfl (hr.mono (by decide)) (hr.mono (by decide)) (hr2.mono (by decide)) W h g)
 generalize hrr : re + re = r2 at *
 have HC := Lib.hid (fun va vb W (h : Num W va r2) (g : Num W vb d) => Cmp_any va vb r2 d (hr2.mono (by decide)) (hd.mono (by decide)) W h g)
 obtain ⟨cm, hcm⟩ : ∃ x, x = cmpI r2 d := ⟨_, rfl⟩
 rw [← hcm] at HC
 have hM := fun bf af kf cf B W xb => mode1_any b a k c b' a' k' c' bf af kf cf cm B W xb
 simp only [show Ending.returned (.bool (b)) = Ending.returned (.bool false) from congrArg (fun x => Ending.returned (.bool x)) (show (b) = false from hrup)] at hM
 have HM := Lib.hid hM
 clear hM hcm hrr hr2 hf1 hrup hn hd hd0 hm0 hm1 hm2 hf hr hfl hre
 have hB := Below.refl w.heap.size w
 obtain ⟨al, xx, hN⟩ := mk hB #[.bool b, .slice a k c, .bool b', .slice a' k' c'] 101
 replace hB := hN; clear al hN
 try simp only [World.size_alloc] at xx
 obtain ⟨al, xu, hN⟩ := mk hB #[.bool ub, .slice ua uk uc, .bool ub', .slice ua' uk' uc'] 101
 replace xx := xx.on al; replace hB := hN; clear al hN
 try simp only [World.size_alloc] at xu
 obtain ⟨al, xr, hN⟩ := mk hB #[.bool false, .slice none 0 0] 24
 replace xx := xx.on al; replace xu := xu.on al; replace hB := hN; clear al hN
 try simp only [World.size_alloc] at xr
 go_enter Tryz.func116, Tryz.ntmps116
 have px := xx.all4
 have pu := xu.all4
 have pr := xr.all2
 go_wp2_with fail
 clear px pu pr
 refine (HQ.out _ hB).mono ?_
 rintro e w1 ⟨⟨vn, vd, rfl, gn, gd⟩, hb⟩
 obtain ⟨b1, a1, k1, c1, rfl⟩ := gn.num.opened
 obtain ⟨b2, a2, k2, c2, rfl⟩ := gd.num.opened
 replace gn := gn.num; replace gd := gd.num; replace xx := xx.on hb; replace xu := xu.on hb; replace xr := xr.on hb
 have hz1 := hb.size
 try simp at hz1
 replace hB := hB.trans (hb.mono hB.size); clear hb xu HQ
 obtain ⟨al, xn, hN⟩ := mk hB #[.bool b1, .slice a1 k1 c1] 24
 replace xx := xx.on al; replace xr := xr.on al; replace gn := gn.on al; replace gd := gd.on al; replace hB := hN; clear al hN
 try simp only [World.size_alloc] at xn
 obtain ⟨al, xd, hN⟩ := mk hB #[.bool b2, .slice a2 k2 c2] 24
 replace xx := xx.on al; replace xr := xr.on al; replace xn := xn.on al; replace gn := gn.on al; replace gd := gd.on al; replace hB := hN; clear al hN
 try simp only [World.size_alloc] at xd
 have px := xx.all4
 have pr := xr.all2
 have pn := xn.all2
 have pd := xd.all2
 go_wp2_with fail
 clear px pr pn pd
 refine (HD.out _ _ _ gn gd).mono ?_
 rintro e w2 ⟨⟨vq, vr, rfl, gf, gr⟩, hb⟩
 obtain ⟨b3, a3, k3, c3, rfl⟩ := gf.num.opened
 obtain ⟨b4, a4, k4, c4, rfl⟩ := gr.num.opened
 replace gf := gf.num; replace gr := gr.num; replace xx := xx.on hb; replace xr := xr.on hb; replace xn := xn.on hb; replace xd := xd.on hb; replace gn := gn.on hb; replace gd := gd.on hb
 have hz2 := hb.size
 try simp at hz2
 replace hB := hB.trans (hb.mono hB.size); clear hb gn HD xn
 obtain ⟨al, xf, hN⟩ := mk hB #[.bool b3, .slice a3 k3 c3] 24
 replace xx := xx.on al; replace xr := xr.on al; replace xd := xd.on al; replace gd := gd.on al; replace gf := gf.on al; replace gr := gr.on al; replace hB := hN; clear al hN
 try simp only [World.size_alloc] at xf
 obtain ⟨al, xe, hN⟩ := mk hB #[.bool b4, .slice a4 k4 c4] 24
 replace xx := xx.on al; replace xr := xr.on al; replace xd := xd.on al; replace xf := xf.on al; replace gd := gd.on al; replace gf := gf.on al; replace gr := gr.on al; replace hB := hN; clear al hN
 try simp only [World.size_alloc] at xe
 have px := xx.all4
 have pr := xr.all2
 have pd := xd.all2
 have pf := xf.all2
 have pe := xe.all2
 go_wp2_with fail
 clear px pr pd pf pe
 refine (HZ.out _ _ gr).mono ?_
 rintro e w3 ⟨rfl, hb⟩
 replace xx := xx.on hb; replace xr := xr.on hb; replace xd := xd.on hb; replace xf := xf.on hb; replace xe := xe.on hb; replace gd := gd.on hb; replace gf := gf.on hb; replace gr := gr.on hb
 have hz3 := hb.size
 try simp at hz3
 replace hB := hB.trans (hb.mono hB.size); clear hb HZ
 have px := xx.all4
 have pr := xr.all2
 have pd := xd.all2
 have pf := xf.all2
 have pe := xe.all2
 go_wp2_with fail
 clear px pr pd pf pe
 have qx := xx.lt
 have qf := xf.lt
 have qe := xe.lt
 have qd := xd.lt
 obtain ⟨gx0, gx1, gx2, gx3⟩ := xx.cells4
 obtain ⟨gf0, gf1⟩ := xf.cells2
 obtain ⟨ge0, ge1⟩ := xe.cells2
 obtain ⟨gd0, gd1⟩ := xd.cells2
 refine wp_region_noPanic ?_
 refine wp_region_held_drew (S := (fun w' => (w'.cell? ⟨w.heap.size, 0, none⟩ = some (.bool b) ∧ w'.cell? ⟨w.heap.size, 1, none⟩ = some (.slice a k c) ∧ w'.cell? ⟨w.heap.size, 2, none⟩ = some (.bool b') ∧ w'.cell? ⟨w.heap.size, 3, none⟩ = some (.slice a' k' c')) ∧ w'.cell? ⟨w2.heap.size, 0, none⟩ = some (.bool b3) ∧ w'.cell? ⟨w2.heap.size, 1, none⟩ = some (.slice a3 k3 c3) ∧ w'.cell? ⟨w2.heap.size + 1, 0, none⟩ = some (.bool b4) ∧ w'.cell? ⟨w2.heap.size + 1, 1, none⟩ = some (.slice a4 k4 c4) ∧ w'.cell? ⟨w1.heap.size + 1, 0, none⟩ = some (.bool b2) ∧ w'.cell? ⟨w1.heap.size + 1, 1, none⟩ = some (.slice a2 k2 c2))) (by kernel_rfl) ⟨⟨gx0, gx1, gx2, gx3⟩, gf0, gf1, ge0, ge1, gd0, gd1⟩ (fun hR0 => ?_)
 change wpAnyH _ _ _ _ _ 12 #[false, false, false, false, false, false, false, false, false, false, false, false] _ _
 clear gx0 gx1 gx2 gx3 gf0 gf1 ge0 ge1 gd0 gd1
 refine tz 0 ?_
 (try simp only [Act.put, sa, List.set])
 refine tz 1 ?_
 (try simp only [Act.put, sa, List.set])
 refine tz 2 ?_
 (try simp only [Act.put, sa, List.set])
 refine tz 3 ?_
 (try simp only [Act.put, sa, List.set])
 refine tz 5 ?_
 (try simp only [Act.put, sa, List.set])
 refine tz 9 ?_
 (try simp only [Act.put, sa, List.set])
 refine rz 4 fun K hK => ?_
 go_simp
 go_at_call 147; have hBd := hB.drew; refine (HP.out _ _ w3.drew gr gr).mono ?_; rintro e w4 ⟨⟨v5, rfl, gs⟩, hb⟩; replace hb := (Below.refl w3.heap.size w3).drew.trans hb; obtain ⟨b5, a5, k5, c5, rfl⟩ := gs.num.opened; replace gs := gs.num; replace xx := xx.on hb; replace xr := xr.on hb; replace xd := xd.on hb; replace xf := xf.on hb; replace xe := xe.on hb; replace gd := gd.on hb; replace gf := gf.on hb; replace gr := gr.on hb; replace hB := hB.trans (hb.mono hB.size); have hz4 := hb.size
 (try go_wp2_with fail)
 refine hK.out _ _ (⟨keep4 hb qx hR0.1, (hb.cell (p := ⟨w2.heap.size, 0, none⟩) qf).trans hR0.2.1, (hb.cell (p := ⟨w2.heap.size, 1, none⟩) qf).trans hR0.2.2.1, (hb.cell (p := ⟨w2.heap.size + 1, 0, none⟩) qe).trans hR0.2.2.2.1, (hb.cell (p := ⟨w2.heap.size + 1, 1, none⟩) qe).trans hR0.2.2.2.2.1, (hb.cell (p := ⟨w1.heap.size + 1, 0, none⟩) qd).trans hR0.2.2.2.2.2.1, (hb.cell (p := ⟨w1.heap.size + 1, 1, none⟩) qd).trans hR0.2.2.2.2.2.2⟩) (fun hR1 => ?_)
 clear hK K hR0
 (try simp only [Act.put, sa, List.set])
 replace qx := Nat.lt_of_lt_of_le qx hz4; replace qf := Nat.lt_of_lt_of_le qf hz4; replace qe := Nat.lt_of_lt_of_le qe hz4; replace qd := Nat.lt_of_lt_of_le qd hz4; clear hb hBd
 refine rz 6 fun K hK => ?_
 go_simp
 go_at_call 74; have hBd := hB; refine (HC.out _ _ _ gs gd).mono ?_; rintro e w5 ⟨rfl, hb⟩; replace xx := xx.on hb; replace xr := xr.on hb; replace xd := xd.on hb; replace xf := xf.on hb; replace xe := xe.on hb; replace gd := gd.on hb; replace gf := gf.on hb; replace gs := gs.on hb; replace hB := hB.trans (hb.mono hB.size); have hz5 := hb.size
 (try go_wp2_with fail)
 refine hK.out _ _ (⟨keep4 hb qx hR1.1, (hb.cell (p := ⟨w2.heap.size, 0, none⟩) qf).trans hR1.2.1, (hb.cell (p := ⟨w2.heap.size, 1, none⟩) qf).trans hR1.2.2.1, (hb.cell (p := ⟨w2.heap.size + 1, 0, none⟩) qe).trans hR1.2.2.2.1, (hb.cell (p := ⟨w2.heap.size + 1, 1, none⟩) qe).trans hR1.2.2.2.2.1, (hb.cell (p := ⟨w1.heap.size + 1, 0, none⟩) qd).trans hR1.2.2.2.2.2.1, (hb.cell (p := ⟨w1.heap.size + 1, 1, none⟩) qd).trans hR1.2.2.2.2.2.2⟩) (fun hR2 => ?_)
 clear hK K hR1
 (try simp only [Act.put, sa, List.set])
 replace qx := Nat.lt_of_lt_of_le qx hz5; replace qf := Nat.lt_of_lt_of_le qf hz5; replace qe := Nat.lt_of_lt_of_le qe hz5; replace qd := Nat.lt_of_lt_of_le qd hz5; clear hb hBd
 refine tz 7 ?_
 (try simp only [Act.put, sa, List.set])
 refine rz 8 fun K hK => ?_
 go_simp
 go_at_call 160; have hBd := hB; refine (modes_any _ _ _ _ _ _ _ _ _ _ _ _ _ _).mono ?_; rintro e w6 ⟨rfl, xb, hb⟩; replace xx := xx.on hb; replace xr := xr.on hb; replace xd := xd.on hb; replace xf := xf.on hb; replace xe := xe.on hb; replace gf := gf.on hb; replace hB := hB.trans (hb.mono hB.size); have hz6 := hb.size
 (try go_wp2_with fail)
 refine hK.out _ _ (⟨keep4 hb qx hR2.1, (hb.cell (p := ⟨w2.heap.size, 0, none⟩) qf).trans hR2.2.1, (hb.cell (p := ⟨w2.heap.size, 1, none⟩) qf).trans hR2.2.2.1, (hb.cell (p := ⟨w2.heap.size + 1, 0, none⟩) qe).trans hR2.2.2.2.1, (hb.cell (p := ⟨w2.heap.size + 1, 1, none⟩) qe).trans hR2.2.2.2.2.1, (hb.cell (p := ⟨w1.heap.size + 1, 0, none⟩) qd).trans hR2.2.2.2.2.2.1, (hb.cell (p := ⟨w1.heap.size + 1, 1, none⟩) qd).trans hR2.2.2.2.2.2.2⟩) (fun hR3 => ?_)
 clear hK K hR2
 (try simp only [Act.put, sa, List.set])
 replace qx := Nat.lt_of_lt_of_le qx hz6; replace qf := Nat.lt_of_lt_of_le qf hz6; replace qe := Nat.lt_of_lt_of_le qe hz6; replace qd := Nat.lt_of_lt_of_le qd hz6; clear hb hBd
 refine tk (i := 10) (v := .func (.func 201) #[] #[.pointer (some ⟨w5.heap.size, 0, none⟩)]) rfl (by kernel_rfl) (fun _ _ _ h => h) (by rfl) ?_ (by assumption) ?_
 · (intro w hSw; (try dsimp only at hSw); kernel_rfl)
 (try simp only [Act.put, sa, List.set])
 refine tz 11 ?_
 (try simp only [Act.put, sa, List.set])
 refine wpAnyH_done (by kernel_rfl) ?_ _
 refine NoPanic.normal ?_
 clear hR3 qx qf qe qd xe xd xx
 have pr := xr.all2
 have pf := xf.all2
 have pb := xb.all7
 go_wp2_with fail
 clear pr pf pb
 refine (HM.out _ _ _ _ _ _ xb).mono ?_
 rintro e w7 ⟨rfl, hb⟩
 replace xr := xr.on hb; replace xf := xf.on hb; replace xb := xb.on hb; replace gf := gf.on hb
 have hz7 := hb.size
 try simp at hz7
 replace hB := hB.trans (hb.mono hB.size); clear hb xb
 have pr := xr.all2
 have pf := xf.all2
 go_wp2_with fail
 clear pr pf xf; replace gf := gf.setB xr rfl 0 (.bool b3)
 replace xr : Bk _ (w.heap.size + 1 + 1) #[.bool b3, .slice none 0 0] _ := xr.put 0 (.bool b3)
 replace hB := hB.setCell (p := ⟨w.heap.size + 1 + 1, 0, none⟩) (by first | omega | (simp; omega) | simp) (.bool b3); replace gf := gf.setB xr rfl 1 (.slice a3 k3 c3)
 replace xr : Bk _ (w.heap.size + 1 + 1) #[.bool b3, .slice a3 k3 c3] _ := xr.put 1 (.slice a3 k3 c3)
 replace hB := hB.setCell (p := ⟨w.heap.size + 1 + 1, 1, none⟩) (by first | omega | (simp; omega) | simp) (.slice a3 k3 c3)
 generalize ((w7.setCell ⟨w.heap.size + 1 + 1, 0, none⟩ (.bool b3)).setCell ⟨w.heap.size + 1 + 1, 1, none⟩ (.slice a3 k3 c3)) = WF at *
 have pr := xr.all2
 exact bodyPost_ret (v := .agg #[.bool b3, .slice a3 k3 c3]) (by simp [results, Tryz.results116, go_sem, pr]) rfl ⟨⟨_, rfl, gf⟩, hB⟩
theorem factor_2true (q u : Rat) (b : Bool) (a : Option Addr) (k c : Nat) (b' : Bool) (a' : Option Addr) (k' c' : Nat) (ub : Bool) (ua : Option Addr) (uk uc : Nat) (ub' : Bool) (ua' : Option Addr) (uk' uc' : Nat) (hp : Fz 256 256 q) (hu : Fz 256 256 u) (hu0 : 0 < u.num) (h0 : q.num * (u.den : Int) % ((q.den : Int) * u.num) ≠ 0) (hrup : rup 2 b (q.num * (u.den : Int) % ((q.den : Int) * u.num) + q.num * (u.den : Int) % ((q.den : Int) * u.num)) ((q.den : Int) * u.num) (q.num * (u.den : Int) / ((q.den : Int) * u.num)) = true) (w : World) (h : Fra w (.agg #[.bool b, .slice a k c, .bool b', .slice a' k' c']) q) (g : Fra w (.agg #[.bool ub, .slice ua uk uc, .bool ub', .slice ua' uk' uc']) u) :
  Calls Tryz.prog 116 #[.agg #[.bool b, .slice a k c, .bool b', .slice a' k' c'], .agg #[.bool ub, .slice ua uk uc, .bool ub', .slice ua' uk' uc'], .int .u8 2] w fun e w' => (∃ v, e = .returned v ∧ Num w' v (q.num * (u.den : Int) / ((q.den : Int) * u.num) + 1)) ∧ Below w.heap.size w w' := by
 obtain ⟨h1, h1d⟩ := hp
 obtain ⟨h2, h2d⟩ := hu
 have HQ := Lib.hid (fun W (hW : Below w.heap.size w W) => frquotient_any q u b a k c b' a' k' c' ub ua uk uc ub' ua' uk' uc' ⟨h1, h1d⟩ ⟨h2, h2d⟩ W (h.below hW (Nat.le_refl _)) (g.below hW (Nat.le_refl _)))
 have hn := Sz.mul h1 h2d
 have hd := Sz.mul h1d h2
 have hd0 : 0 < (q.den : Int) * u.num := Int.mul_pos (by have := q.den_pos; omega) hu0
 clear h g h1 h1d h2 h2d hu0
 generalize q.num * (u.den : Int) = n at *
 generalize (q.den : Int) * u.num = d at *
 have hm0 := Int.emod_nonneg n (show d ≠ 0 by omega)
 have hm1 := Int.emod_lt_of_pos n hd0
 have hm2 := Int.mul_ediv_add_emod n d
 have hf : Sz 512 (n / d) := hn.le (Int.natAbs_ediv_le_natAbs n d)
 have hr : Sz 512 (n % d) := hd.le (by omega)
 generalize hfl : n / d = fl at *
 generalize hre : n % d = re at *
 rw [Int.mul_comm] at hm2
 have HD := Lib.hid (fun va vb W (h : Num W va n) (g : Num W vb d) => frdivide_known va vb n d fl re ⟨hm2.symm, .inl ⟨hm0, hm1⟩⟩ (hn.mono (by decide)) (hd.mono (by decide)) (by omega) W h g)
 have hz := fun v W (h : Num W v re) => isZero_num v re W h
 rw [show decide (re = 0) = false from decide_eq_false h0] at hz
 have HZ := Lib.hid hz
 clear hz
 have hr2 : Sz 513 (re + re) := Sz.add hr hr
 have hf1 : Sz 513 (fl + 1) := Sz.add hf (Sz.small (z := 1) (by decide))
 have HP := Lib.hid (fun va vb W (h : Num W va re) (g : Num W vb re) => frplus_any va vb re re (re + re) rfl (hr.mono (by decide)) (hr.mono (by decide)) (hr2.mono (by decide)) W h g)
 generalize hrr : re + re = r2 at *
 have HC := Lib.hid (fun va vb W (h : Num W va r2) (g : Num W vb d) => Cmp_any va vb r2 d (hr2.mono (by decide)) (hd.mono (by decide)) W h g)
 have HS := Lib.hid (fun va vb W (h : Num W va fl) (g : Num W vb 1) => frplus_any va vb fl 1 (fl + 1) rfl (hf.mono (by decide)) ((Sz.small (z := 1) (by decide)).mono (by decide)) (hf1.mono (by decide)) W h g)
 have H1 := Lib.hid (fun W => FromInt_any 1 (by decide) (by decide) W)
 obtain ⟨cm, hcm⟩ : ∃ x, x = cmpI r2 d := ⟨_, rfl⟩
 rw [← hcm] at HC
 have hM := fun bf af kf cf B W xb => mode2_any b a k c b' a' k' c' bf af kf cf cm B W xb
 simp only [show Ending.returned (.bool (!b)) = Ending.returned (.bool true) from congrArg (fun x => Ending.returned (.bool x)) (show (!b) = true from hrup)] at hM
 have HM := Lib.hid hM
 clear hM hcm hrr hr2 hf1 hrup hn hd hd0 hm0 hm1 hm2 hf hr hfl hre
 have hB := Below.refl w.heap.size w
 obtain ⟨al, xx, hN⟩ := mk hB #[.bool b, .slice a k c, .bool b', .slice a' k' c'] 101
 replace hB := hN; clear al hN
 try simp only [World.size_alloc] at xx
 obtain ⟨al, xu, hN⟩ := mk hB #[.bool ub, .slice ua uk uc, .bool ub', .slice ua' uk' uc'] 101
 replace xx := xx.on al; replace hB := hN; clear al hN
 try simp only [World.size_alloc] at xu
 obtain ⟨al, xr, hN⟩ := mk hB #[.bool false, .slice none 0 0] 24
 replace xx := xx.on al; replace xu := xu.on al; replace hB := hN; clear al hN
 try simp only [World.size_alloc] at xr
 go_enter Tryz.func116, Tryz.ntmps116
 have px := xx.all4
 have pu := xu.all4
 have pr := xr.all2
 go_wp2_with fail
 clear px pu pr
 refine (HQ.out _ hB).mono ?_
 rintro e w1 ⟨⟨vn, vd, rfl, gn, gd⟩, hb⟩
 obtain ⟨b1, a1, k1, c1, rfl⟩ := gn.num.opened
 obtain ⟨b2, a2, k2, c2, rfl⟩ := gd.num.opened
 replace gn := gn.num; replace gd := gd.num; replace xx := xx.on hb; replace xu := xu.on hb; replace xr := xr.on hb
 have hz1 := hb.size
 try simp at hz1
 replace hB := hB.trans (hb.mono hB.size); clear hb xu HQ
 obtain ⟨al, xn, hN⟩ := mk hB #[.bool b1, .slice a1 k1 c1] 24
 replace xx := xx.on al; replace xr := xr.on al; replace gn := gn.on al; replace gd := gd.on al; replace hB := hN; clear al hN
 try simp only [World.size_alloc] at xn
 obtain ⟨al, xd, hN⟩ := mk hB #[.bool b2, .slice a2 k2 c2] 24
 replace xx := xx.on al; replace xr := xr.on al; replace xn := xn.on al; replace gn := gn.on al; replace gd := gd.on al; replace hB := hN; clear al hN
 try simp only [World.size_alloc] at xd
 have px := xx.all4
 have pr := xr.all2
 have pn := xn.all2
 have pd := xd.all2
 go_wp2_with fail
 clear px pr pn pd
 refine (HD.out _ _ _ gn gd).mono ?_
 rintro e w2 ⟨⟨vq, vr, rfl, gf, gr⟩, hb⟩
 obtain ⟨b3, a3, k3, c3, rfl⟩ := gf.num.opened
 obtain ⟨b4, a4, k4, c4, rfl⟩ := gr.num.opened
 replace gf := gf.num; replace gr := gr.num; replace xx := xx.on hb; replace xr := xr.on hb; replace xn := xn.on hb; replace xd := xd.on hb; replace gn := gn.on hb; replace gd := gd.on hb
 have hz2 := hb.size
 try simp at hz2
 replace hB := hB.trans (hb.mono hB.size); clear hb gn HD xn
 obtain ⟨al, xf, hN⟩ := mk hB #[.bool b3, .slice a3 k3 c3] 24
 replace xx := xx.on al; replace xr := xr.on al; replace xd := xd.on al; replace gd := gd.on al; replace gf := gf.on al; replace gr := gr.on al; replace hB := hN; clear al hN
 try simp only [World.size_alloc] at xf
 obtain ⟨al, xe, hN⟩ := mk hB #[.bool b4, .slice a4 k4 c4] 24
 replace xx := xx.on al; replace xr := xr.on al; replace xd := xd.on al; replace xf := xf.on al; replace gd := gd.on al; replace gf := gf.on al; replace gr := gr.on al; replace hB := hN; clear al hN
 try simp only [World.size_alloc] at xe
 have px := xx.all4
 have pr := xr.all2
 have pd := xd.all2
 have pf := xf.all2
 have pe := xe.all2
 go_wp2_with fail
 clear px pr pd pf pe
 refine (HZ.out _ _ gr).mono ?_
 rintro e w3 ⟨rfl, hb⟩
 replace xx := xx.on hb; replace xr := xr.on hb; replace xd := xd.on hb; replace xf := xf.on hb; replace xe := xe.on hb; replace gd := gd.on hb; replace gf := gf.on hb; replace gr := gr.on hb
 have hz3 := hb.size
 try simp at hz3
 replace hB := hB.trans (hb.mono hB.size); clear hb HZ
 have px := xx.all4
 have pr := xr.all2
 have pd := xd.all2
 have pf := xf.all2
 have pe := xe.all2
 go_wp2_with fail
 clear px pr pd pf pe
 have qx := xx.lt
 have qf := xf.lt
 have qe := xe.lt
 have qd := xd.lt
 obtain ⟨gx0, gx1, gx2, gx3⟩ := xx.cells4
 obtain ⟨gf0, gf1⟩ := xf.cells2
 obtain ⟨ge0, ge1⟩ := xe.cells2
 obtain ⟨gd0, gd1⟩ := xd.cells2
 refine wp_region_noPanic ?_
 refine wp_region_held_drew (S := (fun w' => (w'.cell? ⟨w.heap.size, 0, none⟩ = some (.bool b) ∧ w'.cell? ⟨w.heap.size, 1, none⟩ = some (.slice a k c) ∧ w'.cell? ⟨w.heap.size, 2, none⟩ = some (.bool b') ∧ w'.cell? ⟨w.heap.size, 3, none⟩ = some (.slice a' k' c')) ∧ w'.cell? ⟨w2.heap.size, 0, none⟩ = some (.bool b3) ∧ w'.cell? ⟨w2.heap.size, 1, none⟩ = some (.slice a3 k3 c3) ∧ w'.cell? ⟨w2.heap.size + 1, 0, none⟩ = some (.bool b4) ∧ w'.cell? ⟨w2.heap.size + 1, 1, none⟩ = some (.slice a4 k4 c4) ∧ w'.cell? ⟨w1.heap.size + 1, 0, none⟩ = some (.bool b2) ∧ w'.cell? ⟨w1.heap.size + 1, 1, none⟩ = some (.slice a2 k2 c2))) (by kernel_rfl) ⟨⟨gx0, gx1, gx2, gx3⟩, gf0, gf1, ge0, ge1, gd0, gd1⟩ (fun hR0 => ?_)
 change wpAnyH _ _ _ _ _ 12 #[false, false, false, false, false, false, false, false, false, false, false, false] _ _
 clear gx0 gx1 gx2 gx3 gf0 gf1 ge0 ge1 gd0 gd1
 refine tz 0 ?_
 (try simp only [Act.put, sa, List.set])
 refine tz 1 ?_
 (try simp only [Act.put, sa, List.set])
 refine tz 2 ?_
 (try simp only [Act.put, sa, List.set])
 refine tz 3 ?_
 (try simp only [Act.put, sa, List.set])
 refine tz 5 ?_
 (try simp only [Act.put, sa, List.set])
 refine tz 9 ?_
 (try simp only [Act.put, sa, List.set])
 refine rz 4 fun K hK => ?_
 go_simp
 go_at_call 147; have hBd := hB.drew; refine (HP.out _ _ w3.drew gr gr).mono ?_; rintro e w4 ⟨⟨v5, rfl, gs⟩, hb⟩; replace hb := (Below.refl w3.heap.size w3).drew.trans hb; obtain ⟨b5, a5, k5, c5, rfl⟩ := gs.num.opened; replace gs := gs.num; replace xx := xx.on hb; replace xr := xr.on hb; replace xd := xd.on hb; replace xf := xf.on hb; replace xe := xe.on hb; replace gd := gd.on hb; replace gf := gf.on hb; replace gr := gr.on hb; replace hB := hB.trans (hb.mono hB.size); have hz4 := hb.size
 (try go_wp2_with fail)
 refine hK.out _ _ (⟨keep4 hb qx hR0.1, (hb.cell (p := ⟨w2.heap.size, 0, none⟩) qf).trans hR0.2.1, (hb.cell (p := ⟨w2.heap.size, 1, none⟩) qf).trans hR0.2.2.1, (hb.cell (p := ⟨w2.heap.size + 1, 0, none⟩) qe).trans hR0.2.2.2.1, (hb.cell (p := ⟨w2.heap.size + 1, 1, none⟩) qe).trans hR0.2.2.2.2.1, (hb.cell (p := ⟨w1.heap.size + 1, 0, none⟩) qd).trans hR0.2.2.2.2.2.1, (hb.cell (p := ⟨w1.heap.size + 1, 1, none⟩) qd).trans hR0.2.2.2.2.2.2⟩) (fun hR1 => ?_)
 clear hK K hR0
 (try simp only [Act.put, sa, List.set])
 replace qx := Nat.lt_of_lt_of_le qx hz4; replace qf := Nat.lt_of_lt_of_le qf hz4; replace qe := Nat.lt_of_lt_of_le qe hz4; replace qd := Nat.lt_of_lt_of_le qd hz4; clear hb hBd
 refine rz 6 fun K hK => ?_
 go_simp
 go_at_call 74; have hBd := hB; refine (HC.out _ _ _ gs gd).mono ?_; rintro e w5 ⟨rfl, hb⟩; replace xx := xx.on hb; replace xr := xr.on hb; replace xd := xd.on hb; replace xf := xf.on hb; replace xe := xe.on hb; replace gd := gd.on hb; replace gf := gf.on hb; replace gs := gs.on hb; replace hB := hB.trans (hb.mono hB.size); have hz5 := hb.size
 (try go_wp2_with fail)
 refine hK.out _ _ (⟨keep4 hb qx hR1.1, (hb.cell (p := ⟨w2.heap.size, 0, none⟩) qf).trans hR1.2.1, (hb.cell (p := ⟨w2.heap.size, 1, none⟩) qf).trans hR1.2.2.1, (hb.cell (p := ⟨w2.heap.size + 1, 0, none⟩) qe).trans hR1.2.2.2.1, (hb.cell (p := ⟨w2.heap.size + 1, 1, none⟩) qe).trans hR1.2.2.2.2.1, (hb.cell (p := ⟨w1.heap.size + 1, 0, none⟩) qd).trans hR1.2.2.2.2.2.1, (hb.cell (p := ⟨w1.heap.size + 1, 1, none⟩) qd).trans hR1.2.2.2.2.2.2⟩) (fun hR2 => ?_)
 clear hK K hR1
 (try simp only [Act.put, sa, List.set])
 replace qx := Nat.lt_of_lt_of_le qx hz5; replace qf := Nat.lt_of_lt_of_le qf hz5; replace qe := Nat.lt_of_lt_of_le qe hz5; replace qd := Nat.lt_of_lt_of_le qd hz5; clear hb hBd
 refine tz 7 ?_
 (try simp only [Act.put, sa, List.set])
 refine rz 8 fun K hK => ?_
 go_simp
 go_at_call 160; have hBd := hB; refine (modes_any _ _ _ _ _ _ _ _ _ _ _ _ _ _).mono ?_; rintro e w6 ⟨rfl, xb, hb⟩; replace xx := xx.on hb; replace xr := xr.on hb; replace xd := xd.on hb; replace xf := xf.on hb; replace xe := xe.on hb; replace gf := gf.on hb; replace hB := hB.trans (hb.mono hB.size); have hz6 := hb.size
 (try go_wp2_with fail)
 refine hK.out _ _ (⟨keep4 hb qx hR2.1, (hb.cell (p := ⟨w2.heap.size, 0, none⟩) qf).trans hR2.2.1, (hb.cell (p := ⟨w2.heap.size, 1, none⟩) qf).trans hR2.2.2.1, (hb.cell (p := ⟨w2.heap.size + 1, 0, none⟩) qe).trans hR2.2.2.2.1, (hb.cell (p := ⟨w2.heap.size + 1, 1, none⟩) qe).trans hR2.2.2.2.2.1, (hb.cell (p := ⟨w1.heap.size + 1, 0, none⟩) qd).trans hR2.2.2.2.2.2.1, (hb.cell (p := ⟨w1.heap.size + 1, 1, none⟩) qd).trans hR2.2.2.2.2.2.2⟩) (fun hR3 => ?_)
 clear hK K hR2
 (try simp only [Act.put, sa, List.set])
 replace qx := Nat.lt_of_lt_of_le qx hz6; replace qf := Nat.lt_of_lt_of_le qf hz6; replace qe := Nat.lt_of_lt_of_le qe hz6; replace qd := Nat.lt_of_lt_of_le qd hz6; clear hb hBd
 refine tk (i := 10) (v := .func (.func 202) #[] #[.pointer (some ⟨w5.heap.size, 0, none⟩)]) rfl (by kernel_rfl) (fun _ _ _ h => h) (by rfl) ?_ (by assumption) ?_
 · (intro w hSw; (try dsimp only at hSw); kernel_rfl)
 (try simp only [Act.put, sa, List.set])
 refine tz 11 ?_
 (try simp only [Act.put, sa, List.set])
 refine wpAnyH_done (by kernel_rfl) ?_ _
 refine NoPanic.normal ?_
 clear hR3 qx qf qe qd xe xd xx
 have pr := xr.all2
 have pf := xf.all2
 have pb := xb.all7
 go_wp2_with fail
 clear pr pf pb
 refine (HM.out _ _ _ _ _ _ xb).mono ?_
 rintro e w7 ⟨rfl, hb⟩
 replace xr := xr.on hb; replace xf := xf.on hb; replace xb := xb.on hb; replace gf := gf.on hb
 have hz7 := hb.size
 try simp at hz7
 replace hB := hB.trans (hb.mono hB.size); clear hb xb
 have pr := xr.all2
 have pf := xf.all2
 go_wp2_with fail
 clear pr pf
 have qf := xf.lt
 obtain ⟨gf0, gf1⟩ := xf.cells2
 refine wp_region_noPanic ?_
 refine wp_region_held_drew (S := (fun w' => w'.cell? ⟨w2.heap.size, 0, none⟩ = some (.bool b3) ∧ w'.cell? ⟨w2.heap.size, 1, none⟩ = some (.slice a3 k3 c3))) (by kernel_rfl) ⟨gf0, gf1⟩ (fun hR0 => ?_)
 change wpAnyH _ _ _ _ _ 4 #[false, false, false, false] _ _
 clear gf0 gf1
 refine tz 0 ?_
 (try simp only [Act.put, sa, List.set])
 refine rz 1 fun K hK => ?_
 go_simp
 go_at_call 19; have hBd := hB.drew; refine (H1.out _).mono ?_; rintro e w8 ⟨⟨v7, rfl, o1⟩, hb⟩; replace hb := (Below.refl w7.heap.size w7).drew.trans hb; obtain ⟨b7, a7, k7, c7, rfl⟩ := o1.num.opened; replace o1 := o1.num; replace xr := xr.on hb; replace xf := xf.on hb; replace gf := gf.on hb; replace hB := hB.trans (hb.mono hB.size); have hz8 := hb.size
 (try go_wp2_with fail)
 refine hK.out _ _ (⟨(hb.cell (p := ⟨w2.heap.size, 0, none⟩) qf).trans hR0.1, (hb.cell (p := ⟨w2.heap.size, 1, none⟩) qf).trans hR0.2⟩) (fun hR1 => ?_)
 clear hK K hR0
 (try simp only [Act.put, sa, List.set])
 replace qf := Nat.lt_of_lt_of_le qf hz8; clear hb hBd
 refine rz 2 fun K hK => ?_
 go_simp
 go_at_call 147; have hBd := hB; refine (HS.out _ _ _ gf o1).mono ?_; rintro e w9 ⟨⟨v8, rfl, o2⟩, hb⟩; obtain ⟨b8, a8, k8, c8, rfl⟩ := o2.num.opened; replace o2 := o2.num; replace xr := xr.on hb; replace xf := xf.on hb; replace hB := hB.trans (hb.mono hB.size); have hz9 := hb.size
 (try go_wp2_with fail)
 refine hK.out _ _ (⟨(hb.cell (p := ⟨w2.heap.size, 0, none⟩) qf).trans hR1.1, (hb.cell (p := ⟨w2.heap.size, 1, none⟩) qf).trans hR1.2⟩) (fun hR2 => ?_)
 clear hK K hR1
 (try simp only [Act.put, sa, List.set])
 replace qf := Nat.lt_of_lt_of_le qf hz9; clear hb hBd
 have pr := xr.all2
 refine rz 3 fun K hK => ?_
 go_simp
 refine hK.out _ _ (⟨cell_store hR2.1 (by omega), cell_store hR2.2 (by omega)⟩) (fun hR3 => ?_)
 clear hK K hR2
 (try simp only [Act.put, sa, List.set])
 clear pr; replace o2 := o2.setB xr rfl 0 (.bool b8); replace xf := xf.put_other (w.heap.size + 1 + 1) 0 (.bool b8) (by omega)
 replace xr : Bk _ (w.heap.size + 1 + 1) #[.bool b8, .slice none 0 0] _ := xr.put 0 (.bool b8)
 replace hB := hB.setCell (p := ⟨w.heap.size + 1 + 1, 0, none⟩) (by first | omega | (simp; omega) | simp) (.bool b8); replace o2 := o2.setB xr rfl 1 (.slice a8 k8 c8); replace xf := xf.put_other (w.heap.size + 1 + 1) 1 (.slice a8 k8 c8) (by omega)
 replace xr : Bk _ (w.heap.size + 1 + 1) #[.bool b8, .slice a8 k8 c8] _ := xr.put 1 (.slice a8 k8 c8)
 replace hB := hB.setCell (p := ⟨w.heap.size + 1 + 1, 1, none⟩) (by first | omega | (simp; omega) | simp) (.slice a8 k8 c8)
 refine wpAnyH_done (by kernel_rfl) ?_ _
 refine NoPanic.normal ?_
 clear hR3 qf xf
 have pr := xr.all2
 go_wp2
 clear pr
 generalize ((w9.setCell ⟨w.heap.size + 1 + 1, 0, none⟩ (.bool b8)).setCell ⟨w.heap.size + 1 + 1, 1, none⟩ (.slice a8 k8 c8)) = WF at *
 have pr := xr.all2
 exact bodyPost_ret (v := .agg #[.bool b8, .slice a8 k8 c8]) (by simp [results, Tryz.results116, go_sem, pr]) rfl ⟨⟨_, rfl, o2⟩, hB⟩
theorem factor_2false (q u : Rat) (b : Bool) (a : Option Addr) (k c : Nat) (b' : Bool) (a' : Option Addr) (k' c' : Nat) (ub : Bool) (ua : Option Addr) (uk uc : Nat) (ub' : Bool) (ua' : Option Addr) (uk' uc' : Nat) (hp : Fz 256 256 q) (hu : Fz 256 256 u) (hu0 : 0 < u.num) (h0 : q.num * (u.den : Int) % ((q.den : Int) * u.num) ≠ 0) (hrup : rup 2 b (q.num * (u.den : Int) % ((q.den : Int) * u.num) + q.num * (u.den : Int) % ((q.den : Int) * u.num)) ((q.den : Int) * u.num) (q.num * (u.den : Int) / ((q.den : Int) * u.num)) = false) (w : World) (h : Fra w (.agg #[.bool b, .slice a k c, .bool b', .slice a' k' c']) q) (g : Fra w (.agg #[.bool ub, .slice ua uk uc, .bool ub', .slice ua' uk' uc']) u) :
  Calls Tryz.prog 116 #[.agg #[.bool b, .slice a k c, .bool b', .slice a' k' c'], .agg #[.bool ub, .slice ua uk uc, .bool ub', .slice ua' uk' uc'], .int .u8 2] w fun e w' => (∃ v, e = .returned v ∧ Num w' v (q.num * (u.den : Int) / ((q.den : Int) * u.num))) ∧ Below w.heap.size w w' := by
 obtain ⟨h1, h1d⟩ := hp
 obtain ⟨h2, h2d⟩ := hu
 have HQ := Lib.hid (fun W (hW : Below w.heap.size w W) => frquotient_any q u b a k c b' a' k' c' ub ua uk uc ub' ua' uk' uc' ⟨h1, h1d⟩ ⟨h2, h2d⟩ W (h.below hW (Nat.le_refl _)) (g.below hW (Nat.le_refl _)))
 have hn := Sz.mul h1 h2d
 have hd := Sz.mul h1d h2
 have hd0 : 0 < (q.den : Int) * u.num := Int.mul_pos (by have := q.den_pos; omega) hu0
 clear h g h1 h1d h2 h2d hu0
 generalize q.num * (u.den : Int) = n at *
 generalize (q.den : Int) * u.num = d at *
 have hm0 := Int.emod_nonneg n (show d ≠ 0 by omega)
 have hm1 := Int.emod_lt_of_pos n hd0
 have hm2 := Int.mul_ediv_add_emod n d
 have hf : Sz 512 (n / d) := hn.le (Int.natAbs_ediv_le_natAbs n d)
 have hr : Sz 512 (n % d) := hd.le (by omega)
 generalize hfl : n / d = fl at *
 generalize hre : n % d = re at *
 rw [Int.mul_comm] at hm2
 have HD := Lib.hid (fun va vb W (h : Num W va n) (g : Num W vb d) => frdivide_known va vb n d fl re ⟨hm2.symm, .inl ⟨hm0, hm1⟩⟩ (hn.mono (by decide)) (hd.mono (by decide)) (by omega) W h g)
 have hz := fun v W (h : Num W v re) => isZero_num v re W h
 rw [show decide (re = 0) = false from decide_eq_false h0] at hz
 have HZ := Lib.hid hz
 clear hz
 have hr2 : Sz 513 (re + re) := Sz.add hr hr
 have hf1 : Sz 513 (fl + 1) := Sz.add hf (Sz.small (z := 1) (by decide))
 have HP := Lib.hid (fun va vb W (h : Num W va re) (g : Num W vb re) => frplus_any va vb re re (re + re) rfl (hr.mono (by decide)) (hr.mono (by decide)) (hr2.mono (by decide)) W h g)
 generalize hrr : re + re = r2 at *
 have HC := Lib.hid (fun va vb W (h : Num W va r2) (g : Num W vb d) => Cmp_any va vb r2 d (hr2.mono (by decide)) (hd.mono (by decide)) W h g)
 obtain ⟨cm, hcm⟩ : ∃ x, x = cmpI r2 d := ⟨_, rfl⟩
 rw [← hcm] at HC
 have hM := fun bf af kf cf B W xb => mode2_any b a k c b' a' k' c' bf af kf cf cm B W xb
 simp only [show Ending.returned (.bool (!b)) = Ending.returned (.bool false) from congrArg (fun x => Ending.returned (.bool x)) (show (!b) = false from hrup)] at hM
 have HM := Lib.hid hM
 clear hM hcm hrr hr2 hf1 hrup hn hd hd0 hm0 hm1 hm2 hf hr hfl hre
 have hB := Below.refl w.heap.size w
 obtain ⟨al, xx, hN⟩ := mk hB #[.bool b, .slice a k c, .bool b', .slice a' k' c'] 101
 replace hB := hN; clear al hN
 try simp only [World.size_alloc] at xx
 obtain ⟨al, xu, hN⟩ := mk hB #[.bool ub, .slice ua uk uc, .bool ub', .slice ua' uk' uc'] 101
 replace xx := xx.on al; replace hB := hN; clear al hN
 try simp only [World.size_alloc] at xu
 obtain ⟨al, xr, hN⟩ := mk hB #[.bool false, .slice none 0 0] 24
 replace xx := xx.on al; replace xu := xu.on al; replace hB := hN; clear al hN
 try simp only [World.size_alloc] at xr
 go_enter Tryz.func116, Tryz.ntmps116
 have px := xx.all4
 have pu := xu.all4
 have pr := xr.all2
 go_wp2_with fail
 clear px pu pr
 refine (HQ.out _ hB).mono ?_
 rintro e w1 ⟨⟨vn, vd, rfl, gn, gd⟩, hb⟩
 obtain ⟨b1, a1, k1, c1, rfl⟩ := gn.num.opened
 obtain ⟨b2, a2, k2, c2, rfl⟩ := gd.num.opened
 replace gn := gn.num; replace gd := gd.num; replace xx := xx.on hb; replace xu := xu.on hb; replace xr := xr.on hb
 have hz1 := hb.size
 try simp at hz1
 replace hB := hB.trans (hb.mono hB.size); clear hb xu HQ
 obtain ⟨al, xn, hN⟩ := mk hB #[.bool b1, .slice a1 k1 c1] 24
 replace xx := xx.on al; replace xr := xr.on al; replace gn := gn.on al; replace gd := gd.on al; replace hB := hN; clear al hN
 try simp only [World.size_alloc] at xn
 obtain ⟨al, xd, hN⟩ := mk hB #[.bool b2, .slice a2 k2 c2] 24
 replace xx := xx.on al; replace xr := xr.on al; replace xn := xn.on al; replace gn := gn.on al; replace gd := gd.on al; replace hB := hN; clear al hN
 try simp only [World.size_alloc] at xd
 have px := xx.all4
 have pr := xr.all2
 have pn := xn.all2
 have pd := xd.all2
 go_wp2_with fail
 clear px pr pn pd
 refine (HD.out _ _ _ gn gd).mono ?_
 rintro e w2 ⟨⟨vq, vr, rfl, gf, gr⟩, hb⟩
 obtain ⟨b3, a3, k3, c3, rfl⟩ := gf.num.opened
 obtain ⟨b4, a4, k4, c4, rfl⟩ := gr.num.opened
 replace gf := gf.num; replace gr := gr.num; replace xx := xx.on hb; replace xr := xr.on hb; replace xn := xn.on hb; replace xd := xd.on hb; replace gn := gn.on hb; replace gd := gd.on hb
 have hz2 := hb.size
 try simp at hz2
 replace hB := hB.trans (hb.mono hB.size); clear hb gn HD xn
 obtain ⟨al, xf, hN⟩ := mk hB #[.bool b3, .slice a3 k3 c3] 24
 replace xx := xx.on al; replace xr := xr.on al; replace xd := xd.on al; replace gd := gd.on al; replace gf := gf.on al; replace gr := gr.on al; replace hB := hN; clear al hN
 try simp only [World.size_alloc] at xf
 obtain ⟨al, xe, hN⟩ := mk hB #[.bool b4, .slice a4 k4 c4] 24
 replace xx := xx.on al; replace xr := xr.on al; replace xd := xd.on al; replace xf := xf.on al; replace gd := gd.on al; replace gf := gf.on al; replace gr := gr.on al; replace hB := hN; clear al hN
 try simp only [World.size_alloc] at xe
 have px := xx.all4
 have pr := xr.all2
 have pd := xd.all2
 have pf := xf.all2
 have pe := xe.all2
 go_wp2_with fail
 clear px pr pd pf pe
 refine (HZ.out _ _ gr).mono ?_
 rintro e w3 ⟨rfl, hb⟩
 replace xx := xx.on hb; replace xr := xr.on hb; replace xd := xd.on hb; replace xf := xf.on hb; replace xe := xe.on hb; replace gd := gd.on hb; replace gf := gf.on hb; replace gr := gr.on hb
 have hz3 := hb.size
 try simp at hz3
 replace hB := hB.trans (hb.mono hB.size); clear hb HZ
 have px := xx.all4
 have pr := xr.all2
 have pd := xd.all2
 have pf := xf.all2
 have pe := xe.all2
 go_wp2_with fail
 clear px pr pd pf pe
 have qx := xx.lt
 have qf := xf.lt
 have qe := xe.lt
 have qd := xd.lt
 obtain ⟨gx0, gx1, gx2, gx3⟩ := xx.cells4
 obtain ⟨gf0, gf1⟩ := xf.cells2
 obtain ⟨ge0, ge1⟩ := xe.cells2
 obtain ⟨gd0, gd1⟩ := xd.cells2
 refine wp_region_noPanic ?_
 refine wp_region_held_drew (S := (fun w' => (w'.cell? ⟨w.heap.size, 0, none⟩ = some (.bool b) ∧ w'.cell? ⟨w.heap.size, 1, none⟩ = some (.slice a k c) ∧ w'.cell? ⟨w.heap.size, 2, none⟩ = some (.bool b') ∧ w'.cell? ⟨w.heap.size, 3, none⟩ = some (.slice a' k' c')) ∧ w'.cell? ⟨w2.heap.size, 0, none⟩ = some (.bool b3) ∧ w'.cell? ⟨w2.heap.size, 1, none⟩ = some (.slice a3 k3 c3) ∧ w'.cell? ⟨w2.heap.size + 1, 0, none⟩ = some (.bool b4) ∧ w'.cell? ⟨w2.heap.size + 1, 1, none⟩ = some (.slice a4 k4 c4) ∧ w'.cell? ⟨w1.heap.size + 1, 0, none⟩ = some (.bool b2) ∧ w'.cell? ⟨w1.heap.size + 1, 1, none⟩ = some (.slice a2 k2 c2))) (by kernel_rfl) ⟨⟨gx0, gx1, gx2, gx3⟩, gf0, gf1, ge0, ge1, gd0, gd1⟩ (fun hR0 => ?_)
 change wpAnyH _ _ _ _ _ 12 #[false, false, false, false, false, false, false, false, false, false, false, false] _ _
 clear gx0 gx1 gx2 gx3 gf0 gf1 ge0 ge1 gd0 gd1
 refine tz 0 ?_
 (try simp only [Act.put, sa, List.set])
 refine tz 1 ?_
 (try simp only [Act.put, sa, List.set])
 refine tz 2 ?_
 (try simp only [Act.put, sa, List.set])
 refine tz 3 ?_
 (try simp only [Act.put, sa, List.set])
 refine tz 5 ?_
 (try simp only [Act.put, sa, List.set])
 refine tz 9 ?_
 (try simp only [Act.put, sa, List.set])
 refine rz 4 fun K hK => ?_
 go_simp
 go_at_call 147; have hBd := hB.drew; refine (HP.out _ _ w3.drew gr gr).mono ?_; rintro e w4 ⟨⟨v5, rfl, gs⟩, hb⟩; replace hb := (Below.refl w3.heap.size w3).drew.trans hb; obtain ⟨b5, a5, k5, c5, rfl⟩ := gs.num.opened; replace gs := gs.num; replace xx := xx.on hb; replace xr := xr.on hb; replace xd := xd.on hb; replace xf := xf.on hb; replace xe := xe.on hb; replace gd := gd.on hb; replace gf := gf.on hb; replace gr := gr.on hb; replace hB := hB.trans (hb.mono hB.size); have hz4 := hb.size
 (try go_wp2_with fail)
 refine hK.out _ _ (⟨keep4 hb qx hR0.1, (hb.cell (p := ⟨w2.heap.size, 0, none⟩) qf).trans hR0.2.1, (hb.cell (p := ⟨w2.heap.size, 1, none⟩) qf).trans hR0.2.2.1, (hb.cell (p := ⟨w2.heap.size + 1, 0, none⟩) qe).trans hR0.2.2.2.1, (hb.cell (p := ⟨w2.heap.size + 1, 1, none⟩) qe).trans hR0.2.2.2.2.1, (hb.cell (p := ⟨w1.heap.size + 1, 0, none⟩) qd).trans hR0.2.2.2.2.2.1, (hb.cell (p := ⟨w1.heap.size + 1, 1, none⟩) qd).trans hR0.2.2.2.2.2.2⟩) (fun hR1 => ?_)
 clear hK K hR0
 (try simp only [Act.put, sa, List.set])
 replace qx := Nat.lt_of_lt_of_le qx hz4; replace qf := Nat.lt_of_lt_of_le qf hz4; replace qe := Nat.lt_of_lt_of_le qe hz4; replace qd := Nat.lt_of_lt_of_le qd hz4; clear hb hBd
 refine rz 6 fun K hK => ?_
 go_simp
 go_at_call 74; have hBd := hB; refine (HC.out _ _ _ gs gd).mono ?_; rintro e w5 ⟨rfl, hb⟩; replace xx := xx.on hb; replace xr := xr.on hb; replace xd := xd.on hb; replace xf := xf.on hb; replace xe := xe.on hb; replace gd := gd.on hb; replace gf := gf.on hb; replace gs := gs.on hb; replace hB := hB.trans (hb.mono hB.size); have hz5 := hb.size
 (try go_wp2_with fail)
 refine hK.out _ _ (⟨keep4 hb qx hR1.1, (hb.cell (p := ⟨w2.heap.size, 0, none⟩) qf).trans hR1.2.1, (hb.cell (p := ⟨w2.heap.size, 1, none⟩) qf).trans hR1.2.2.1, (hb.cell (p := ⟨w2.heap.size + 1, 0, none⟩) qe).trans hR1.2.2.2.1, (hb.cell (p := ⟨w2.heap.size + 1, 1, none⟩) qe).trans hR1.2.2.2.2.1, (hb.cell (p := ⟨w1.heap.size + 1, 0, none⟩) qd).trans hR1.2.2.2.2.2.1, (hb.cell (p := ⟨w1.heap.size + 1, 1, none⟩) qd).trans hR1.2.2.2.2.2.2⟩) (fun hR2 => ?_)
 clear hK K hR1
 (try simp only [Act.put, sa, List.set])
 replace qx := Nat.lt_of_lt_of_le qx hz5; replace qf := Nat.lt_of_lt_of_le qf hz5; replace qe := Nat.lt_of_lt_of_le qe hz5; replace qd := Nat.lt_of_lt_of_le qd hz5; clear hb hBd
 refine tz 7 ?_
 (try simp only [Act.put, sa, List.set])
 refine rz 8 fun K hK => ?_
 go_simp
 go_at_call 160; have hBd := hB; refine (modes_any _ _ _ _ _ _ _ _ _ _ _ _ _ _).mono ?_; rintro e w6 ⟨rfl, xb, hb⟩; replace xx := xx.on hb; replace xr := xr.on hb; replace xd := xd.on hb; replace xf := xf.on hb; replace xe := xe.on hb; replace gf := gf.on hb; replace hB := hB.trans (hb.mono hB.size); have hz6 := hb.size
 (try go_wp2_with fail)
 refine hK.out _ _ (⟨keep4 hb qx hR2.1, (hb.cell (p := ⟨w2.heap.size, 0, none⟩) qf).trans hR2.2.1, (hb.cell (p := ⟨w2.heap.size, 1, none⟩) qf).trans hR2.2.2.1, (hb.cell (p := ⟨w2.heap.size + 1, 0, none⟩) qe).trans hR2.2.2.2.1, (hb.cell (p := ⟨w2.heap.size + 1, 1, none⟩) qe).trans hR2.2.2.2.2.1, (hb.cell (p := ⟨w1.heap.size + 1, 0, none⟩) qd).trans hR2.2.2.2.2.2.1, (hb.cell (p := ⟨w1.heap.size + 1, 1, none⟩) qd).trans hR2.2.2.2.2.2.2⟩) (fun hR3 => ?_)
 clear hK K hR2
 (try simp only [Act.put, sa, List.set])
 replace qx := Nat.lt_of_lt_of_le qx hz6; replace qf := Nat.lt_of_lt_of_le qf hz6; replace qe := Nat.lt_of_lt_of_le qe hz6; replace qd := Nat.lt_of_lt_of_le qd hz6; clear hb hBd
 refine tk (i := 10) (v := .func (.func 202) #[] #[.pointer (some ⟨w5.heap.size, 0, none⟩)]) rfl (by kernel_rfl) (fun _ _ _ h => h) (by rfl) ?_ (by assumption) ?_
 · (intro w hSw; (try dsimp only at hSw); kernel_rfl)
 (try simp only [Act.put, sa, List.set])
 refine tz 11 ?_
 (try simp only [Act.put, sa, List.set])
 refine wpAnyH_done (by kernel_rfl) ?_ _
 refine NoPanic.normal ?_
 clear hR3 qx qf qe qd xe xd xx
 have pr := xr.all2
 have pf := xf.all2
 have pb := xb.all7
 go_wp2_with fail
 clear pr pf pb
 refine (HM.out _ _ _ _ _ _ xb).mono ?_
 rintro e w7 ⟨rfl, hb⟩
 replace xr := xr.on hb; replace xf := xf.on hb; replace xb := xb.on hb; replace gf := gf.on hb
 have hz7 := hb.size
 try simp at hz7
 replace hB := hB.trans (hb.mono hB.size); clear hb xb
 have pr := xr.all2
 have pf := xf.all2
 go_wp2_with fail
 clear pr pf xf; replace gf := gf.setB xr rfl 0 (.bool b3)
 replace xr : Bk _ (w.heap.size + 1 + 1) #[.bool b3, .slice none 0 0] _ := xr.put 0 (.bool b3)
 replace hB := hB.setCell (p := ⟨w.heap.size + 1 + 1, 0, none⟩) (by first | omega | (simp; omega) | simp) (.bool b3); replace gf := gf.setB xr rfl 1 (.slice a3 k3 c3)
 replace xr : Bk _ (w.heap.size + 1 + 1) #[.bool b3, .slice a3 k3 c3] _ := xr.put 1 (.slice a3 k3 c3)
 replace hB := hB.setCell (p := ⟨w.heap.size + 1 + 1, 1, none⟩) (by first | omega | (simp; omega) | simp) (.slice a3 k3 c3)
 generalize ((w7.setCell ⟨w.heap.size + 1 + 1, 0, none⟩ (.bool b3)).setCell ⟨w.heap.size + 1 + 1, 1, none⟩ (.slice a3 k3 c3)) = WF at *
 have pr := xr.all2
 exact bodyPost_ret (v := .agg #[.bool b3, .slice a3 k3 c3]) (by simp [results, Tryz.results116, go_sem, pr]) rfl ⟨⟨_, rfl, gf⟩, hB⟩
theorem factor_3false (q u : Rat) (b : Bool) (a : Option Addr) (k c : Nat) (b' : Bool) (a' : Option Addr) (k' c' : Nat) (ub : Bool) (ua : Option Addr) (uk uc : Nat) (ub' : Bool) (ua' : Option Addr) (uk' uc' : Nat) (hp : Fz 256 256 q) (hu : Fz 256 256 u) (hu0 : 0 < u.num) (h0 : q.num * (u.den : Int) % ((q.den : Int) * u.num) ≠ 0) (w : World) (h : Fra w (.agg #[.bool b, .slice a k c, .bool b', .slice a' k' c']) q) (g : Fra w (.agg #[.bool ub, .slice ua uk uc, .bool ub', .slice ua' uk' uc']) u) :
  Calls Tryz.prog 116 #[.agg #[.bool b, .slice a k c, .bool b', .slice a' k' c'], .agg #[.bool ub, .slice ua uk uc, .bool ub', .slice ua' uk' uc'], .int .u8 3] w fun e w' => (∃ v, e = .returned v ∧ Num w' v (q.num * (u.den : Int) / ((q.den : Int) * u.num))) ∧ Below w.heap.size w w' := by
 obtain ⟨h1, h1d⟩ := hp
 obtain ⟨h2, h2d⟩ := hu
 have HQ := Lib.hid (fun W (hW : Below w.heap.size w W) => frquotient_any q u b a k c b' a' k' c' ub ua uk uc ub' ua' uk' uc' ⟨h1, h1d⟩ ⟨h2, h2d⟩ W (h.below hW (Nat.le_refl _)) (g.below hW (Nat.le_refl _)))
 have hn := Sz.mul h1 h2d
 have hd := Sz.mul h1d h2
 have hd0 : 0 < (q.den : Int) * u.num := Int.mul_pos (by have := q.den_pos; omega) hu0
 clear h g h1 h1d h2 h2d hu0
 generalize q.num * (u.den : Int) = n at *
 generalize (q.den : Int) * u.num = d at *
 have hm0 := Int.emod_nonneg n (show d ≠ 0 by omega)
 have hm1 := Int.emod_lt_of_pos n hd0
 have hm2 := Int.mul_ediv_add_emod n d
 have hf : Sz 512 (n / d) := hn.le (Int.natAbs_ediv_le_natAbs n d)
 have hr : Sz 512 (n % d) := hd.le (by omega)
 generalize hfl : n / d = fl at *
 generalize hre : n % d = re at *
 rw [Int.mul_comm] at hm2
 have HD := Lib.hid (fun va vb W (h : Num W va n) (g : Num W vb d) => frdivide_known va vb n d fl re ⟨hm2.symm, .inl ⟨hm0, hm1⟩⟩ (hn.mono (by decide)) (hd.mono (by decide)) (by omega) W h g)
 have hz := fun v W (h : Num W v re) => isZero_num v re W h
 rw [show decide (re = 0) = false from decide_eq_false h0] at hz
 have HZ := Lib.hid hz
 clear hz
 have hr2 : Sz 513 (re + re) := Sz.add hr hr
 have hf1 : Sz 513 (fl + 1) := Sz.add hf (Sz.small (z := 1) (by decide))
 have HP := Lib.hid (fun va vb W (h : Num W va re) (g : Num W vb re) => frplus_any va vb re re (re + re) rfl (hr.mono (by decide)) (hr.mono (by decide)) (hr2.mono (by decide)) W h g)
 generalize hrr : re + re = r2 at *
 have HC := Lib.hid (fun va vb W (h : Num W va r2) (g : Num W vb d) => Cmp_any va vb r2 d (hr2.mono (by decide)) (hd.mono (by decide)) W h g)
 obtain ⟨cm, hcm⟩ : ∃ x, x = cmpI r2 d := ⟨_, rfl⟩
 rw [← hcm] at HC
 have hM := fun W => mode3_any W
 have HM := Lib.hid hM
 clear hM hcm hrr hr2 hf1 hn hd hd0 hm0 hm1 hm2 hf hr hfl hre
 have hB := Below.refl w.heap.size w
 obtain ⟨al, xx, hN⟩ := mk hB #[.bool b, .slice a k c, .bool b', .slice a' k' c'] 101
 replace hB := hN; clear al hN
 try simp only [World.size_alloc] at xx
 obtain ⟨al, xu, hN⟩ := mk hB #[.bool ub, .slice ua uk uc, .bool ub', .slice ua' uk' uc'] 101
 replace xx := xx.on al; replace hB := hN; clear al hN
 try simp only [World.size_alloc] at xu
 obtain ⟨al, xr, hN⟩ := mk hB #[.bool false, .slice none 0 0] 24
 replace xx := xx.on al; replace xu := xu.on al; replace hB := hN; clear al hN
 try simp only [World.size_alloc] at xr
 go_enter Tryz.func116, Tryz.ntmps116
 have px := xx.all4
 have pu := xu.all4
 have pr := xr.all2
 go_wp2_with fail
 clear px pu pr
 refine (HQ.out _ hB).mono ?_
 rintro e w1 ⟨⟨vn, vd, rfl, gn, gd⟩, hb⟩
 obtain ⟨b1, a1, k1, c1, rfl⟩ := gn.num.opened
 obtain ⟨b2, a2, k2, c2, rfl⟩ := gd.num.opened
 replace gn := gn.num; replace gd := gd.num; replace xx := xx.on hb; replace xu := xu.on hb; replace xr := xr.on hb
 have hz1 := hb.size
 try simp at hz1
 replace hB := hB.trans (hb.mono hB.size); clear hb xu HQ
 obtain ⟨al, xn, hN⟩ := mk hB #[.bool b1, .slice a1 k1 c1] 24
 replace xx := xx.on al; replace xr := xr.on al; replace gn := gn.on al; replace gd := gd.on al; replace hB := hN; clear al hN
 try simp only [World.size_alloc] at xn
 obtain ⟨al, xd, hN⟩ := mk hB #[.bool b2, .slice a2 k2 c2] 24
 replace xx := xx.on al; replace xr := xr.on al; replace xn := xn.on al; replace gn := gn.on al; replace gd := gd.on al; replace hB := hN; clear al hN
 try simp only [World.size_alloc] at xd
 have px := xx.all4
 have pr := xr.all2
 have pn := xn.all2
 have pd := xd.all2
 go_wp2_with fail
 clear px pr pn pd
 refine (HD.out _ _ _ gn gd).mono ?_
 rintro e w2 ⟨⟨vq, vr, rfl, gf, gr⟩, hb⟩
 obtain ⟨b3, a3, k3, c3, rfl⟩ := gf.num.opened
 obtain ⟨b4, a4, k4, c4, rfl⟩ := gr.num.opened
 replace gf := gf.num; replace gr := gr.num; replace xx := xx.on hb; replace xr := xr.on hb; replace xn := xn.on hb; replace xd := xd.on hb; replace gn := gn.on hb; replace gd := gd.on hb
 have hz2 := hb.size
 try simp at hz2
 replace hB := hB.trans (hb.mono hB.size); clear hb gn HD xn
 obtain ⟨al, xf, hN⟩ := mk hB #[.bool b3, .slice a3 k3 c3] 24
 replace xx := xx.on al; replace xr := xr.on al; replace xd := xd.on al; replace gd := gd.on al; replace gf := gf.on al; replace gr := gr.on al; replace hB := hN; clear al hN
 try simp only [World.size_alloc] at xf
 obtain ⟨al, xe, hN⟩ := mk hB #[.bool b4, .slice a4 k4 c4] 24
 replace xx := xx.on al; replace xr := xr.on al; replace xd := xd.on al; replace xf := xf.on al; replace gd := gd.on al; replace gf := gf.on al; replace gr := gr.on al; replace hB := hN; clear al hN
 try simp only [World.size_alloc] at xe
 have px := xx.all4
 have pr := xr.all2
 have pd := xd.all2
 have pf := xf.all2
 have pe := xe.all2
 go_wp2_with fail
 clear px pr pd pf pe
 refine (HZ.out _ _ gr).mono ?_
 rintro e w3 ⟨rfl, hb⟩
 replace xx := xx.on hb; replace xr := xr.on hb; replace xd := xd.on hb; replace xf := xf.on hb; replace xe := xe.on hb; replace gd := gd.on hb; replace gf := gf.on hb; replace gr := gr.on hb
 have hz3 := hb.size
 try simp at hz3
 replace hB := hB.trans (hb.mono hB.size); clear hb HZ
 have px := xx.all4
 have pr := xr.all2
 have pd := xd.all2
 have pf := xf.all2
 have pe := xe.all2
 go_wp2_with fail
 clear px pr pd pf pe
 have qx := xx.lt
 have qf := xf.lt
 have qe := xe.lt
 have qd := xd.lt
 obtain ⟨gx0, gx1, gx2, gx3⟩ := xx.cells4
 obtain ⟨gf0, gf1⟩ := xf.cells2
 obtain ⟨ge0, ge1⟩ := xe.cells2
 obtain ⟨gd0, gd1⟩ := xd.cells2
 refine wp_region_noPanic ?_
 refine wp_region_held_drew (S := (fun w' => (w'.cell? ⟨w.heap.size, 0, none⟩ = some (.bool b) ∧ w'.cell? ⟨w.heap.size, 1, none⟩ = some (.slice a k c) ∧ w'.cell? ⟨w.heap.size, 2, none⟩ = some (.bool b') ∧ w'.cell? ⟨w.heap.size, 3, none⟩ = some (.slice a' k' c')) ∧ w'.cell? ⟨w2.heap.size, 0, none⟩ = some (.bool b3) ∧ w'.cell? ⟨w2.heap.size, 1, none⟩ = some (.slice a3 k3 c3) ∧ w'.cell? ⟨w2.heap.size + 1, 0, none⟩ = some (.bool b4) ∧ w'.cell? ⟨w2.heap.size + 1, 1, none⟩ = some (.slice a4 k4 c4) ∧ w'.cell? ⟨w1.heap.size + 1, 0, none⟩ = some (.bool b2) ∧ w'.cell? ⟨w1.heap.size + 1, 1, none⟩ = some (.slice a2 k2 c2))) (by kernel_rfl) ⟨⟨gx0, gx1, gx2, gx3⟩, gf0, gf1, ge0, ge1, gd0, gd1⟩ (fun hR0 => ?_)
 change wpAnyH _ _ _ _ _ 12 #[false, false, false, false, false, false, false, false, false, false, false, false] _ _
 clear gx0 gx1 gx2 gx3 gf0 gf1 ge0 ge1 gd0 gd1
 refine tz 0 ?_
 (try simp only [Act.put, sa, List.set])
 refine tz 1 ?_
 (try simp only [Act.put, sa, List.set])
 refine tz 2 ?_
 (try simp only [Act.put, sa, List.set])
 refine tz 3 ?_
 (try simp only [Act.put, sa, List.set])
 refine tz 5 ?_
 (try simp only [Act.put, sa, List.set])
 refine tz 9 ?_
 (try simp only [Act.put, sa, List.set])
 refine rz 4 fun K hK => ?_
 go_simp
 go_at_call 147; have hBd := hB.drew; refine (HP.out _ _ w3.drew gr gr).mono ?_; rintro e w4 ⟨⟨v5, rfl, gs⟩, hb⟩; replace hb := (Below.refl w3.heap.size w3).drew.trans hb; obtain ⟨b5, a5, k5, c5, rfl⟩ := gs.num.opened; replace gs := gs.num; replace xx := xx.on hb; replace xr := xr.on hb; replace xd := xd.on hb; replace xf := xf.on hb; replace xe := xe.on hb; replace gd := gd.on hb; replace gf := gf.on hb; replace gr := gr.on hb; replace hB := hB.trans (hb.mono hB.size); have hz4 := hb.size
 (try go_wp2_with fail)
 refine hK.out _ _ (⟨keep4 hb qx hR0.1, (hb.cell (p := ⟨w2.heap.size, 0, none⟩) qf).trans hR0.2.1, (hb.cell (p := ⟨w2.heap.size, 1, none⟩) qf).trans hR0.2.2.1, (hb.cell (p := ⟨w2.heap.size + 1, 0, none⟩) qe).trans hR0.2.2.2.1, (hb.cell (p := ⟨w2.heap.size + 1, 1, none⟩) qe).trans hR0.2.2.2.2.1, (hb.cell (p := ⟨w1.heap.size + 1, 0, none⟩) qd).trans hR0.2.2.2.2.2.1, (hb.cell (p := ⟨w1.heap.size + 1, 1, none⟩) qd).trans hR0.2.2.2.2.2.2⟩) (fun hR1 => ?_)
 clear hK K hR0
 (try simp only [Act.put, sa, List.set])
 replace qx := Nat.lt_of_lt_of_le qx hz4; replace qf := Nat.lt_of_lt_of_le qf hz4; replace qe := Nat.lt_of_lt_of_le qe hz4; replace qd := Nat.lt_of_lt_of_le qd hz4; clear hb hBd
 refine rz 6 fun K hK => ?_
 go_simp
 go_at_call 74; have hBd := hB; refine (HC.out _ _ _ gs gd).mono ?_; rintro e w5 ⟨rfl, hb⟩; replace xx := xx.on hb; replace xr := xr.on hb; replace xd := xd.on hb; replace xf := xf.on hb; replace xe := xe.on hb; replace gd := gd.on hb; replace gf := gf.on hb; replace gs := gs.on hb; replace hB := hB.trans (hb.mono hB.size); have hz5 := hb.size
 (try go_wp2_with fail)
 refine hK.out _ _ (⟨keep4 hb qx hR1.1, (hb.cell (p := ⟨w2.heap.size, 0, none⟩) qf).trans hR1.2.1, (hb.cell (p := ⟨w2.heap.size, 1, none⟩) qf).trans hR1.2.2.1, (hb.cell (p := ⟨w2.heap.size + 1, 0, none⟩) qe).trans hR1.2.2.2.1, (hb.cell (p := ⟨w2.heap.size + 1, 1, none⟩) qe).trans hR1.2.2.2.2.1, (hb.cell (p := ⟨w1.heap.size + 1, 0, none⟩) qd).trans hR1.2.2.2.2.2.1, (hb.cell (p := ⟨w1.heap.size + 1, 1, none⟩) qd).trans hR1.2.2.2.2.2.2⟩) (fun hR2 => ?_)
 clear hK K hR1
 (try simp only [Act.put, sa, List.set])
 replace qx := Nat.lt_of_lt_of_le qx hz5; replace qf := Nat.lt_of_lt_of_le qf hz5; replace qe := Nat.lt_of_lt_of_le qe hz5; replace qd := Nat.lt_of_lt_of_le qd hz5; clear hb hBd
 refine tz 7 ?_
 (try simp only [Act.put, sa, List.set])
 refine rz 8 fun K hK => ?_
 go_simp
 go_at_call 160; have hBd := hB; refine (modes_any _ _ _ _ _ _ _ _ _ _ _ _ _ _).mono ?_; rintro e w6 ⟨rfl, xb, hb⟩; replace xx := xx.on hb; replace xr := xr.on hb; replace xd := xd.on hb; replace xf := xf.on hb; replace xe := xe.on hb; replace gf := gf.on hb; replace hB := hB.trans (hb.mono hB.size); have hz6 := hb.size
 (try go_wp2_with fail)
 refine hK.out _ _ (⟨keep4 hb qx hR2.1, (hb.cell (p := ⟨w2.heap.size, 0, none⟩) qf).trans hR2.2.1, (hb.cell (p := ⟨w2.heap.size, 1, none⟩) qf).trans hR2.2.2.1, (hb.cell (p := ⟨w2.heap.size + 1, 0, none⟩) qe).trans hR2.2.2.2.1, (hb.cell (p := ⟨w2.heap.size + 1, 1, none⟩) qe).trans hR2.2.2.2.2.1, (hb.cell (p := ⟨w1.heap.size + 1, 0, none⟩) qd).trans hR2.2.2.2.2.2.1, (hb.cell (p := ⟨w1.heap.size + 1, 1, none⟩) qd).trans hR2.2.2.2.2.2.2⟩) (fun hR3 => ?_)
 clear hK K hR2
 (try simp only [Act.put, sa, List.set])
 replace qx := Nat.lt_of_lt_of_le qx hz6; replace qf := Nat.lt_of_lt_of_le qf hz6; replace qe := Nat.lt_of_lt_of_le qe hz6; replace qd := Nat.lt_of_lt_of_le qd hz6; clear hb hBd
 refine tk (i := 10) (v := .func (.func 203) #[] #[]) rfl (by kernel_rfl) (fun _ _ _ h => h) (by rfl) ?_ (by assumption) ?_
 · (intro w hSw; (try dsimp only at hSw); kernel_rfl)
 (try simp only [Act.put, sa, List.set])
 refine tz 11 ?_
 (try simp only [Act.put, sa, List.set])
 refine wpAnyH_done (by kernel_rfl) ?_ _
 refine NoPanic.normal ?_
 clear hR3 qx qf qe qd xe xd xx xb
 have pr := xr.all2
 have pf := xf.all2
 go_wp2_with fail
 clear pr pf
 refine (HM.out _).mono ?_
 rintro e w7 ⟨rfl, hb⟩
 replace xr := xr.on hb; replace xf := xf.on hb; replace gf := gf.on hb
 have hz7 := hb.size
 try simp at hz7
 replace hB := hB.trans (hb.mono hB.size); clear hb
 have pr := xr.all2
 have pf := xf.all2
 go_wp2_with fail
 clear pr pf xf; replace gf := gf.setB xr rfl 0 (.bool b3)
 replace xr : Bk _ (w.heap.size + 1 + 1) #[.bool b3, .slice none 0 0] _ := xr.put 0 (.bool b3)
 replace hB := hB.setCell (p := ⟨w.heap.size + 1 + 1, 0, none⟩) (by first | omega | (simp; omega) | simp) (.bool b3); replace gf := gf.setB xr rfl 1 (.slice a3 k3 c3)
 replace xr : Bk _ (w.heap.size + 1 + 1) #[.bool b3, .slice a3 k3 c3] _ := xr.put 1 (.slice a3 k3 c3)
 replace hB := hB.setCell (p := ⟨w.heap.size + 1 + 1, 1, none⟩) (by first | omega | (simp; omega) | simp) (.slice a3 k3 c3)
 generalize ((w7.setCell ⟨w.heap.size + 1 + 1, 0, none⟩ (.bool b3)).setCell ⟨w.heap.size + 1 + 1, 1, none⟩ (.slice a3 k3 c3)) = WF at *
 have pr := xr.all2
 exact bodyPost_ret (v := .agg #[.bool b3, .slice a3 k3 c3]) (by simp [results, Tryz.results116, go_sem, pr]) rfl ⟨⟨_, rfl, gf⟩, hB⟩
theorem factor_4true (q u : Rat) (b : Bool) (a : Option Addr) (k c : Nat) (b' : Bool) (a' : Option Addr) (k' c' : Nat) (ub : Bool) (ua : Option Addr) (uk uc : Nat) (ub' : Bool) (ua' : Option Addr) (uk' uc' : Nat) (hp : Fz 256 256 q) (hu : Fz 256 256 u) (hu0 : 0 < u.num) (h0 : q.num * (u.den : Int) % ((q.den : Int) * u.num) ≠ 0) (w : World) (h : Fra w (.agg #[.bool b, .slice a k c, .bool b', .slice a' k' c']) q) (g : Fra w (.agg #[.bool ub, .slice ua uk uc, .bool ub', .slice ua' uk' uc']) u) :
  Calls Tryz.prog 116 #[.agg #[.bool b, .slice a k c, .bool b', .slice a' k' c'], .agg #[.bool ub, .slice ua uk uc, .bool ub', .slice ua' uk' uc'], .int .u8 4] w fun e w' => (∃ v, e = .returned v ∧ Num w' v (q.num * (u.den : Int) / ((q.den : Int) * u.num) + 1)) ∧ Below w.heap.size w w' := by
 obtain ⟨h1, h1d⟩ := hp
 obtain ⟨h2, h2d⟩ := hu
 have HQ := Lib.hid (fun W (hW : Below w.heap.size w W) => frquotient_any q u b a k c b' a' k' c' ub ua uk uc ub' ua' uk' uc' ⟨h1, h1d⟩ ⟨h2, h2d⟩ W (h.below hW (Nat.le_refl _)) (g.below hW (Nat.le_refl _)))
 have hn := Sz.mul h1 h2d
 have hd := Sz.mul h1d h2
 have hd0 : 0 < (q.den : Int) * u.num := Int.mul_pos (by have := q.den_pos; omega) hu0
 clear h g h1 h1d h2 h2d hu0
 generalize q.num * (u.den : Int) = n at *
 generalize (q.den : Int) * u.num = d at *
 have hm0 := Int.emod_nonneg n (show d ≠ 0 by omega)
 have hm1 := Int.emod_lt_of_pos n hd0
 have hm2 := Int.mul_ediv_add_emod n d
 have hf : Sz 512 (n / d) := hn.le (Int.natAbs_ediv_le_natAbs n d)
 have hr : Sz 512 (n % d) := hd.le (by omega)
 generalize hfl : n / d = fl at *
 generalize hre : n % d = re at *
 rw [Int.mul_comm] at hm2
 have HD := Lib.hid (fun va vb W (h : Num W va n) (g : Num W vb d) => frdivide_known va vb n d fl re ⟨hm2.symm, .inl ⟨hm0, hm1⟩⟩ (hn.mono (by decide)) (hd.mono (by decide)) (by omega) W h g)
 have hz := fun v W (h : Num W v re) => isZero_num v re W h
 rw [show decide (re = 0) = false from decide_eq_false h0] at hz
 have HZ := Lib.hid hz
 clear hz
 have hr2 : Sz 513 (re + re) := Sz.add hr hr
 have hf1 : Sz 513 (fl + 1) := Sz.add hf (Sz.small (z := 1) (by decide))
 have HP := Lib.hid (fun va vb W (h : Num W va re) (g : Num W vb re) => frplus_any va vb re re (re + re) rfl (hr.mono (by decide)) (hr.mono (by decide)) (hr2.mono (by decide)) W h g)
 generalize hrr : re + re = r2 at *
 have HC := Lib.hid (fun va vb W (h : Num W va r2) (g : Num W vb d) => Cmp_any va vb r2 d (hr2.mono (by decide)) (hd.mono (by decide)) W h g)
 have HS := Lib.hid (fun va vb W (h : Num W va fl) (g : Num W vb 1) => frplus_any va vb fl 1 (fl + 1) rfl (hf.mono (by decide)) ((Sz.small (z := 1) (by decide)).mono (by decide)) (hf1.mono (by decide)) W h g)
 have H1 := Lib.hid (fun W => FromInt_any 1 (by decide) (by decide) W)
 obtain ⟨cm, hcm⟩ : ∃ x, x = cmpI r2 d := ⟨_, rfl⟩
 rw [← hcm] at HC
 have hM := fun W => mode4_any W
 have HM := Lib.hid hM
 clear hM hcm hrr hr2 hf1 hn hd hd0 hm0 hm1 hm2 hf hr hfl hre
 have hB := Below.refl w.heap.size w
 obtain ⟨al, xx, hN⟩ := mk hB #[.bool b, .slice a k c, .bool b', .slice a' k' c'] 101
 replace hB := hN; clear al hN
 try simp only [World.size_alloc] at xx
 obtain ⟨al, xu, hN⟩ := mk hB #[.bool ub, .slice ua uk uc, .bool ub', .slice ua' uk' uc'] 101
 replace xx := xx.on al; replace hB := hN; clear al hN
 try simp only [World.size_alloc] at xu
 obtain ⟨al, xr, hN⟩ := mk hB #[.bool false, .slice none 0 0] 24
 replace xx := xx.on al; replace xu := xu.on al; replace hB := hN; clear al hN
 try simp only [World.size_alloc] at xr
 go_enter Tryz.func116, Tryz.ntmps116
 have px := xx.all4
 have pu := xu.all4
 have pr := xr.all2
 go_wp2_with fail
 clear px pu pr
 refine (HQ.out _ hB).mono ?_
 rintro e w1 ⟨⟨vn, vd, rfl, gn, gd⟩, hb⟩
 obtain ⟨b1, a1, k1, c1, rfl⟩ := gn.num.opened
 obtain ⟨b2, a2, k2, c2, rfl⟩ := gd.num.opened
 replace gn := gn.num; replace gd := gd.num; replace xx := xx.on hb; replace xu := xu.on hb; replace xr := xr.on hb
 have hz1 := hb.size
 try simp at hz1
 replace hB := hB.trans (hb.mono hB.size); clear hb xu HQ
 obtain ⟨al, xn, hN⟩ := mk hB #[.bool b1, .slice a1 k1 c1] 24
 replace xx := xx.on al; replace xr := xr.on al; replace gn := gn.on al; replace gd := gd.on al; replace hB := hN; clear al hN
 try simp only [World.size_alloc] at xn
 obtain ⟨al, xd, hN⟩ := mk hB #[.bool b2, .slice a2 k2 c2] 24
 replace xx := xx.on al; replace xr := xr.on al; replace xn := xn.on al; replace gn := gn.on al; replace gd := gd.on al; replace hB := hN; clear al hN
 try simp only [World.size_alloc] at xd
 have px := xx.all4
 have pr := xr.all2
 have pn := xn.all2
 have pd := xd.all2
 go_wp2_with fail
 clear px pr pn pd
 refine (HD.out _ _ _ gn gd).mono ?_
 rintro e w2 ⟨⟨vq, vr, rfl, gf, gr⟩, hb⟩
 obtain ⟨b3, a3, k3, c3, rfl⟩ := gf.num.opened
 obtain ⟨b4, a4, k4, c4, rfl⟩ := gr.num.opened
 replace gf := gf.num; replace gr := gr.num; replace xx := xx.on hb; replace xr := xr.on hb; replace xn := xn.on hb; replace xd := xd.on hb; replace gn := gn.on hb; replace gd := gd.on hb
 have hz2 := hb.size
 try simp at hz2
 replace hB := hB.trans (hb.mono hB.size); clear hb gn HD xn
 obtain ⟨al, xf, hN⟩ := mk hB #[.bool b3, .slice a3 k3 c3] 24
 replace xx := xx.on al; replace xr := xr.on al; replace xd := xd.on al; replace gd := gd.on al; replace gf := gf.on al; replace gr := gr.on al; replace hB := hN; clear al hN
 try simp only [World.size_alloc] at xf
 obtain ⟨al, xe, hN⟩ := mk hB #[.bool b4, .slice a4 k4 c4] 24
 replace xx := xx.on al; replace xr := xr.on al; replace xd := xd.on al; replace xf := xf.on al; replace gd := gd.on al; replace gf := gf.on al; replace gr := gr.on al; replace hB := hN; clear al hN
 try simp only [World.size_alloc] at xe
 have px := xx.all4
 have pr := xr.all2
 have pd := xd.all2
 have pf := xf.all2
 have pe := xe.all2
 go_wp2_with fail
 clear px pr pd pf pe
 refine (HZ.out _ _ gr).mono ?_
 rintro e w3 ⟨rfl, hb⟩
 replace xx := xx.on hb; replace xr := xr.on hb; replace xd := xd.on hb; replace xf := xf.on hb; replace xe := xe.on hb; replace gd := gd.on hb; replace gf := gf.on hb; replace gr := gr.on hb
 have hz3 := hb.size
 try simp at hz3
 replace hB := hB.trans (hb.mono hB.size); clear hb HZ
 have px := xx.all4
 have pr := xr.all2
 have pd := xd.all2
 have pf := xf.all2
 have pe := xe.all2
 go_wp2_with fail
 clear px pr pd pf pe
 have qx := xx.lt
 have qf := xf.lt
 have qe := xe.lt
 have qd := xd.lt
 obtain ⟨gx0, gx1, gx2, gx3⟩ := xx.cells4
 obtain ⟨gf0, gf1⟩ := xf.cells2
 obtain ⟨ge0, ge1⟩ := xe.cells2
 obtain ⟨gd0, gd1⟩ := xd.cells2
 refine wp_region_noPanic ?_
 refine wp_region_held_drew (S := (fun w' => (w'.cell? ⟨w.heap.size, 0, none⟩ = some (.bool b) ∧ w'.cell? ⟨w.heap.size, 1, none⟩ = some (.slice a k c) ∧ w'.cell? ⟨w.heap.size, 2, none⟩ = some (.bool b') ∧ w'.cell? ⟨w.heap.size, 3, none⟩ = some (.slice a' k' c')) ∧ w'.cell? ⟨w2.heap.size, 0, none⟩ = some (.bool b3) ∧ w'.cell? ⟨w2.heap.size, 1, none⟩ = some (.slice a3 k3 c3) ∧ w'.cell? ⟨w2.heap.size + 1, 0, none⟩ = some (.bool b4) ∧ w'.cell? ⟨w2.heap.size + 1, 1, none⟩ = some (.slice a4 k4 c4) ∧ w'.cell? ⟨w1.heap.size + 1, 0, none⟩ = some (.bool b2) ∧ w'.cell? ⟨w1.heap.size + 1, 1, none⟩ = some (.slice a2 k2 c2))) (by kernel_rfl) ⟨⟨gx0, gx1, gx2, gx3⟩, gf0, gf1, ge0, ge1, gd0, gd1⟩ (fun hR0 => ?_)
 change wpAnyH _ _ _ _ _ 12 #[false, false, false, false, false, false, false, false, false, false, false, false] _ _
 clear gx0 gx1 gx2 gx3 gf0 gf1 ge0 ge1 gd0 gd1
 refine tz 0 ?_
 (try simp only [Act.put, sa, List.set])
 refine tz 1 ?_
 (try simp only [Act.put, sa, List.set])
 refine tz 2 ?_
 (try simp only [Act.put, sa, List.set])
 refine tz 3 ?_
 (try simp only [Act.put, sa, List.set])
 refine tz 5 ?_
 (try simp only [Act.put, sa, List.set])
 refine tz 9 ?_
 (try simp only [Act.put, sa, List.set])
 refine rz 4 fun K hK => ?_
 go_simp
 go_at_call 147; have hBd := hB.drew; refine (HP.out _ _ w3.drew gr gr).mono ?_; rintro e w4 ⟨⟨v5, rfl, gs⟩, hb⟩; replace hb := (Below.refl w3.heap.size w3).drew.trans hb; obtain ⟨b5, a5, k5, c5, rfl⟩ := gs.num.opened; replace gs := gs.num; replace xx := xx.on hb; replace xr := xr.on hb; replace xd := xd.on hb; replace xf := xf.on hb; replace xe := xe.on hb; replace gd := gd.on hb; replace gf := gf.on hb; replace gr := gr.on hb; replace hB := hB.trans (hb.mono hB.size); have hz4 := hb.size
 (try go_wp2_with fail)
 refine hK.out _ _ (⟨keep4 hb qx hR0.1, (hb.cell (p := ⟨w2.heap.size, 0, none⟩) qf).trans hR0.2.1, (hb.cell (p := ⟨w2.heap.size, 1, none⟩) qf).trans hR0.2.2.1, (hb.cell (p := ⟨w2.heap.size + 1, 0, none⟩) qe).trans hR0.2.2.2.1, (hb.cell (p := ⟨w2.heap.size + 1, 1, none⟩) qe).trans hR0.2.2.2.2.1, (hb.cell (p := ⟨w1.heap.size + 1, 0, none⟩) qd).trans hR0.2.2.2.2.2.1, (hb.cell (p := ⟨w1.heap.size + 1, 1, none⟩) qd).trans hR0.2.2.2.2.2.2⟩) (fun hR1 => ?_)
 clear hK K hR0
 (try simp only [Act.put, sa, List.set])
 replace qx := Nat.lt_of_lt_of_le qx hz4; replace qf := Nat.lt_of_lt_of_le qf hz4; replace qe := Nat.lt_of_lt_of_le qe hz4; replace qd := Nat.lt_of_lt_of_le qd hz4; clear hb hBd
 refine rz 6 fun K hK => ?_
 go_simp
 go_at_call 74; have hBd := hB; refine (HC.out _ _ _ gs gd).mono ?_; rintro e w5 ⟨rfl, hb⟩; replace xx := xx.on hb; replace xr := xr.on hb; replace xd := xd.on hb; replace xf := xf.on hb; replace xe := xe.on hb; replace gd := gd.on hb; replace gf := gf.on hb; replace gs := gs.on hb; replace hB := hB.trans (hb.mono hB.size); have hz5 := hb.size
 (try go_wp2_with fail)
 refine hK.out _ _ (⟨keep4 hb qx hR1.1, (hb.cell (p := ⟨w2.heap.size, 0, none⟩) qf).trans hR1.2.1, (hb.cell (p := ⟨w2.heap.size, 1, none⟩) qf).trans hR1.2.2.1, (hb.cell (p := ⟨w2.heap.size + 1, 0, none⟩) qe).trans hR1.2.2.2.1, (hb.cell (p := ⟨w2.heap.size + 1, 1, none⟩) qe).trans hR1.2.2.2.2.1, (hb.cell (p := ⟨w1.heap.size + 1, 0, none⟩) qd).trans hR1.2.2.2.2.2.1, (hb.cell (p := ⟨w1.heap.size + 1, 1, none⟩) qd).trans hR1.2.2.2.2.2.2⟩) (fun hR2 => ?_)
 clear hK K hR1
 (try simp only [Act.put, sa, List.set])
 replace qx := Nat.lt_of_lt_of_le qx hz5; replace qf := Nat.lt_of_lt_of_le qf hz5; replace qe := Nat.lt_of_lt_of_le qe hz5; replace qd := Nat.lt_of_lt_of_le qd hz5; clear hb hBd
 refine tz 7 ?_
 (try simp only [Act.put, sa, List.set])
 refine rz 8 fun K hK => ?_
 go_simp
 go_at_call 160; have hBd := hB; refine (modes_any _ _ _ _ _ _ _ _ _ _ _ _ _ _).mono ?_; rintro e w6 ⟨rfl, xb, hb⟩; replace xx := xx.on hb; replace xr := xr.on hb; replace xd := xd.on hb; replace xf := xf.on hb; replace xe := xe.on hb; replace gf := gf.on hb; replace hB := hB.trans (hb.mono hB.size); have hz6 := hb.size
 (try go_wp2_with fail)
 refine hK.out _ _ (⟨keep4 hb qx hR2.1, (hb.cell (p := ⟨w2.heap.size, 0, none⟩) qf).trans hR2.2.1, (hb.cell (p := ⟨w2.heap.size, 1, none⟩) qf).trans hR2.2.2.1, (hb.cell (p := ⟨w2.heap.size + 1, 0, none⟩) qe).trans hR2.2.2.2.1, (hb.cell (p := ⟨w2.heap.size + 1, 1, none⟩) qe).trans hR2.2.2.2.2.1, (hb.cell (p := ⟨w1.heap.size + 1, 0, none⟩) qd).trans hR2.2.2.2.2.2.1, (hb.cell (p := ⟨w1.heap.size + 1, 1, none⟩) qd).trans hR2.2.2.2.2.2.2⟩) (fun hR3 => ?_)
 clear hK K hR2
 (try simp only [Act.put, sa, List.set])
 replace qx := Nat.lt_of_lt_of_le qx hz6; replace qf := Nat.lt_of_lt_of_le qf hz6; replace qe := Nat.lt_of_lt_of_le qe hz6; replace qd := Nat.lt_of_lt_of_le qd hz6; clear hb hBd
 refine tk (i := 10) (v := .func (.func 204) #[] #[]) rfl (by kernel_rfl) (fun _ _ _ h => h) (by rfl) ?_ (by assumption) ?_
 · (intro w hSw; (try dsimp only at hSw); kernel_rfl)
 (try simp only [Act.put, sa, List.set])
 refine tz 11 ?_
 (try simp only [Act.put, sa, List.set])
 refine wpAnyH_done (by kernel_rfl) ?_ _
 refine NoPanic.normal ?_
 clear hR3 qx qf qe qd xe xd xx xb
 have pr := xr.all2
 have pf := xf.all2
 go_wp2_with fail
 clear pr pf
 refine (HM.out _).mono ?_
 rintro e w7 ⟨rfl, hb⟩
 replace xr := xr.on hb; replace xf := xf.on hb; replace gf := gf.on hb
 have hz7 := hb.size
 try simp at hz7
 replace hB := hB.trans (hb.mono hB.size); clear hb
 have pr := xr.all2
 have pf := xf.all2
 go_wp2_with fail
 clear pr pf
 have qf := xf.lt
 obtain ⟨gf0, gf1⟩ := xf.cells2
 refine wp_region_noPanic ?_
 refine wp_region_held_drew (S := (fun w' => w'.cell? ⟨w2.heap.size, 0, none⟩ = some (.bool b3) ∧ w'.cell? ⟨w2.heap.size, 1, none⟩ = some (.slice a3 k3 c3))) (by kernel_rfl) ⟨gf0, gf1⟩ (fun hR0 => ?_)
 change wpAnyH _ _ _ _ _ 4 #[false, false, false, false] _ _
 clear gf0 gf1
 refine tz 0 ?_
 (try simp only [Act.put, sa, List.set])
 refine rz 1 fun K hK => ?_
 go_simp
 go_at_call 19; have hBd := hB.drew; refine (H1.out _).mono ?_; rintro e w8 ⟨⟨v7, rfl, o1⟩, hb⟩; replace hb := (Below.refl w7.heap.size w7).drew.trans hb; obtain ⟨b7, a7, k7, c7, rfl⟩ := o1.num.opened; replace o1 := o1.num; replace xr := xr.on hb; replace xf := xf.on hb; replace gf := gf.on hb; replace hB := hB.trans (hb.mono hB.size); have hz8 := hb.size
 (try go_wp2_with fail)
 refine hK.out _ _ (⟨(hb.cell (p := ⟨w2.heap.size, 0, none⟩) qf).trans hR0.1, (hb.cell (p := ⟨w2.heap.size, 1, none⟩) qf).trans hR0.2⟩) (fun hR1 => ?_)
 clear hK K hR0
 (try simp only [Act.put, sa, List.set])
 replace qf := Nat.lt_of_lt_of_le qf hz8; clear hb hBd
 refine rz 2 fun K hK => ?_
 go_simp
 go_at_call 147; have hBd := hB; refine (HS.out _ _ _ gf o1).mono ?_; rintro e w9 ⟨⟨v8, rfl, o2⟩, hb⟩; obtain ⟨b8, a8, k8, c8, rfl⟩ := o2.num.opened; replace o2 := o2.num; replace xr := xr.on hb; replace xf := xf.on hb; replace hB := hB.trans (hb.mono hB.size); have hz9 := hb.size
 (try go_wp2_with fail)
 refine hK.out _ _ (⟨(hb.cell (p := ⟨w2.heap.size, 0, none⟩) qf).trans hR1.1, (hb.cell (p := ⟨w2.heap.size, 1, none⟩) qf).trans hR1.2⟩) (fun hR2 => ?_)
 clear hK K hR1
 (try simp only [Act.put, sa, List.set])
 replace qf := Nat.lt_of_lt_of_le qf hz9; clear hb hBd
 have pr := xr.all2
 refine rz 3 fun K hK => ?_
 go_simp
 refine hK.out _ _ (⟨cell_store hR2.1 (by omega), cell_store hR2.2 (by omega)⟩) (fun hR3 => ?_)
 clear hK K hR2
 (try simp only [Act.put, sa, List.set])
 clear pr; replace o2 := o2.setB xr rfl 0 (.bool b8); replace xf := xf.put_other (w.heap.size + 1 + 1) 0 (.bool b8) (by omega)
 replace xr : Bk _ (w.heap.size + 1 + 1) #[.bool b8, .slice none 0 0] _ := xr.put 0 (.bool b8)
 replace hB := hB.setCell (p := ⟨w.heap.size + 1 + 1, 0, none⟩) (by first | omega | (simp; omega) | simp) (.bool b8); replace o2 := o2.setB xr rfl 1 (.slice a8 k8 c8); replace xf := xf.put_other (w.heap.size + 1 + 1) 1 (.slice a8 k8 c8) (by omega)
 replace xr : Bk _ (w.heap.size + 1 + 1) #[.bool b8, .slice a8 k8 c8] _ := xr.put 1 (.slice a8 k8 c8)
 replace hB := hB.setCell (p := ⟨w.heap.size + 1 + 1, 1, none⟩) (by first | omega | (simp; omega) | simp) (.slice a8 k8 c8)
 refine wpAnyH_done (by kernel_rfl) ?_ _
 refine NoPanic.normal ?_
 clear hR3 qf xf
 have pr := xr.all2
 go_wp2
 clear pr
 generalize ((w9.setCell ⟨w.heap.size + 1 + 1, 0, none⟩ (.bool b8)).setCell ⟨w.heap.size + 1 + 1, 1, none⟩ (.slice a8 k8 c8)) = WF at *
 have pr := xr.all2
 exact bodyPost_ret (v := .agg #[.bool b8, .slice a8 k8 c8]) (by simp [results, Tryz.results116, go_sem, pr]) rfl ⟨⟨_, rfl, o2⟩, hB⟩
theorem factor_5true (q u : Rat) (b : Bool) (a : Option Addr) (k c : Nat) (b' : Bool) (a' : Option Addr) (k' c' : Nat) (ub : Bool) (ua : Option Addr) (uk uc : Nat) (ub' : Bool) (ua' : Option Addr) (uk' uc' : Nat) (hp : Fz 256 256 q) (hu : Fz 256 256 u) (hu0 : 0 < u.num) (h0 : q.num * (u.den : Int) % ((q.den : Int) * u.num) ≠ 0) (hrup : rup 5 b (q.num * (u.den : Int) % ((q.den : Int) * u.num) + q.num * (u.den : Int) % ((q.den : Int) * u.num)) ((q.den : Int) * u.num) (q.num * (u.den : Int) / ((q.den : Int) * u.num)) = true) (w : World) (h : Fra w (.agg #[.bool b, .slice a k c, .bool b', .slice a' k' c']) q) (g : Fra w (.agg #[.bool ub, .slice ua uk uc, .bool ub', .slice ua' uk' uc']) u) :
  Calls Tryz.prog 116 #[.agg #[.bool b, .slice a k c, .bool b', .slice a' k' c'], .agg #[.bool ub, .slice ua uk uc, .bool ub', .slice ua' uk' uc'], .int .u8 5] w fun e w' => (∃ v, e = .returned v ∧ Num w' v (q.num * (u.den : Int) / ((q.den : Int) * u.num) + 1)) ∧ Below w.heap.size w w' := by
 obtain ⟨h1, h1d⟩ := hp
 obtain ⟨h2, h2d⟩ := hu
 have HQ := Lib.hid (fun W (hW : Below w.heap.size w W) => frquotient_any q u b a k c b' a' k' c' ub ua uk uc ub' ua' uk' uc' ⟨h1, h1d⟩ ⟨h2, h2d⟩ W (h.below hW (Nat.le_refl _)) (g.below hW (Nat.le_refl _)))
 have hn := Sz.mul h1 h2d
 have hd := Sz.mul h1d h2
 have hd0 : 0 < (q.den : Int) * u.num := Int.mul_pos (by have := q.den_pos; omega) hu0
 clear h g h1 h1d h2 h2d hu0
 generalize q.num * (u.den : Int) = n at *
 generalize (q.den : Int) * u.num = d at *
 have hm0 := Int.emod_nonneg n (show d ≠ 0 by omega)
 have hm1 := Int.emod_lt_of_pos n hd0
 have hm2 := Int.mul_ediv_add_emod n d
 have hf : Sz 512 (n / d) := hn.le (Int.natAbs_ediv_le_natAbs n d)
 have hr : Sz 512 (n % d) := hd.le (by omega)
 generalize hfl : n / d = fl at *
 generalize hre : n % d = re at *
 rw [Int.mul_comm] at hm2
 have HD := Lib.hid (fun va vb W (h : Num W va n) (g : Num W vb d) => frdivide_known va vb n d fl re ⟨hm2.symm, .inl ⟨hm0, hm1⟩⟩ (hn.mono (by decide)) (hd.mono (by decide)) (by omega) W h g)
 have hz := fun v W (h : Num W v re) => isZero_num v re W h
 rw [show decide (re = 0) = false from decide_eq_false h0] at hz
 have HZ := Lib.hid hz
 clear hz
 have hr2 : Sz 513 (re + re) := Sz.add hr hr
 have hf1 : Sz 513 (fl + 1) := Sz.add hf (Sz.small (z := 1) (by decide))
 have HP := Lib.hid (fun va vb W (h : Num W va re) (g : Num W vb re) => frplus_any va vb re re (re + re) rfl (hr.mono (by decide)) (hr.mono (by decide)) (hr2.mono (by decide)) W h g)
 generalize hrr : re + re = r2 at *
 have HC := Lib.hid (fun va vb W (h : Num W va r2) (g : Num W vb d) => Cmp_any va vb r2 d (hr2.mono (by decide)) (hd.mono (by decide)) W h g)
 have HS := Lib.hid (fun va vb W (h : Num W va fl) (g : Num W vb 1) => frplus_any va vb fl 1 (fl + 1) rfl (hf.mono (by decide)) ((Sz.small (z := 1) (by decide)).mono (by decide)) (hf1.mono (by decide)) W h g)
 have H1 := Lib.hid (fun W => FromInt_any 1 (by decide) (by decide) W)
 obtain ⟨cm, hcm⟩ : ∃ x, x = cmpI r2 d := ⟨_, rfl⟩
 rw [← hcm] at HC
 have hM := fun bf af kf cf B W xb => mode5_any b a k c b' a' k' c' bf af kf cf cm r2 d hcm B W xb
 simp only [show Ending.returned (.bool (decide (d < r2) || (decide (r2 = d) && !b))) = Ending.returned (.bool true) from congrArg (fun x => Ending.returned (.bool x)) (show (decide (d < r2) || (decide (r2 = d) && !b)) = true from hrup)] at hM
 have HM := Lib.hid hM
 clear hM hcm hrr hr2 hf1 hrup hn hd hd0 hm0 hm1 hm2 hf hr hfl hre
 have hB := Below.refl w.heap.size w
 obtain ⟨al, xx, hN⟩ := mk hB #[.bool b, .slice a k c, .bool b', .slice a' k' c'] 101
 replace hB := hN; clear al hN
 try simp only [World.size_alloc] at xx
 obtain ⟨al, xu, hN⟩ := mk hB #[.bool ub, .slice ua uk uc, .bool ub', .slice ua' uk' uc'] 101
 replace xx := xx.on al; replace hB := hN; clear al hN
 try simp only [World.size_alloc] at xu
 obtain ⟨al, xr, hN⟩ := mk hB #[.bool false, .slice none 0 0] 24
 replace xx := xx.on al; replace xu := xu.on al; replace hB := hN; clear al hN
 try simp only [World.size_alloc] at xr
 go_enter Tryz.func116, Tryz.ntmps116
 have px := xx.all4
 have pu := xu.all4
 have pr := xr.all2
 go_wp2_with fail
 clear px pu pr
 refine (HQ.out _ hB).mono ?_
 rintro e w1 ⟨⟨vn, vd, rfl, gn, gd⟩, hb⟩
 obtain ⟨b1, a1, k1, c1, rfl⟩ := gn.num.opened
 obtain ⟨b2, a2, k2, c2, rfl⟩ := gd.num.opened
 replace gn := gn.num; replace gd := gd.num; replace xx := xx.on hb; replace xu := xu.on hb; replace xr := xr.on hb
 have hz1 := hb.size
 try simp at hz1
 replace hB := hB.trans (hb.mono hB.size); clear hb xu HQ
 obtain ⟨al, xn, hN⟩ := mk hB #[.bool b1, .slice a1 k1 c1] 24
 replace xx := xx.on al; replace xr := xr.on al; replace gn := gn.on al; replace gd := gd.on al; replace hB := hN; clear al hN
 try simp only [World.size_alloc] at xn
 obtain ⟨al, xd, hN⟩ := mk hB #[.bool b2, .slice a2 k2 c2] 24
 replace xx := xx.on al; replace xr := xr.on al; replace xn := xn.on al; replace gn := gn.on al; replace gd := gd.on al; replace hB := hN; clear al hN
 try simp only [World.size_alloc] at xd
 have px := xx.all4
 have pr := xr.all2
 have pn := xn.all2
 have pd := xd.all2
 go_wp2_with fail
 clear px pr pn pd
 refine (HD.out _ _ _ gn gd).mono ?_
 rintro e w2 ⟨⟨vq, vr, rfl, gf, gr⟩, hb⟩
 obtain ⟨b3, a3, k3, c3, rfl⟩ := gf.num.opened
 obtain ⟨b4, a4, k4, c4, rfl⟩ := gr.num.opened
 replace gf := gf.num; replace gr := gr.num; replace xx := xx.on hb; replace xr := xr.on hb; replace xn := xn.on hb; replace xd := xd.on hb; replace gn := gn.on hb; replace gd := gd.on hb
 have hz2 := hb.size
 try simp at hz2
 replace hB := hB.trans (hb.mono hB.size); clear hb gn HD xn
 obtain ⟨al, xf, hN⟩ := mk hB #[.bool b3, .slice a3 k3 c3] 24
 replace xx := xx.on al; replace xr := xr.on al; replace xd := xd.on al; replace gd := gd.on al; replace gf := gf.on al; replace gr := gr.on al; replace hB := hN; clear al hN
 try simp only [World.size_alloc] at xf
 obtain ⟨al, xe, hN⟩ := mk hB #[.bool b4, .slice a4 k4 c4] 24
 replace xx := xx.on al; replace xr := xr.on al; replace xd := xd.on al; replace xf := xf.on al; replace gd := gd.on al; replace gf := gf.on al; replace gr := gr.on al; replace hB := hN; clear al hN
 try simp only [World.size_alloc] at xe
 have px := xx.all4
 have pr := xr.all2
 have pd := xd.all2
 have pf := xf.all2
 have pe := xe.all2
 go_wp2_with fail
 clear px pr pd pf pe
 refine (HZ.out _ _ gr).mono ?_
 rintro e w3 ⟨rfl, hb⟩
 replace xx := xx.on hb; replace xr := xr.on hb; replace xd := xd.on hb; replace xf := xf.on hb; replace xe := xe.on hb; replace gd := gd.on hb; replace gf := gf.on hb; replace gr := gr.on hb
 have hz3 := hb.size
 try simp at hz3
 replace hB := hB.trans (hb.mono hB.size); clear hb HZ
 have px := xx.all4
 have pr := xr.all2
 have pd := xd.all2
 have pf := xf.all2
 have pe := xe.all2
 go_wp2_with fail
 clear px pr pd pf pe
 have qx := xx.lt
 have qf := xf.lt
 have qe := xe.lt
 have qd := xd.lt
 obtain ⟨gx0, gx1, gx2, gx3⟩ := xx.cells4
 obtain ⟨gf0, gf1⟩ := xf.cells2
 obtain ⟨ge0, ge1⟩ := xe.cells2
 obtain ⟨gd0, gd1⟩ := xd.cells2
 refine wp_region_noPanic ?_
 refine wp_region_held_drew (S := (fun w' => (w'.cell? ⟨w.heap.size, 0, none⟩ = some (.bool b) ∧ w'.cell? ⟨w.heap.size, 1, none⟩ = some (.slice a k c) ∧ w'.cell? ⟨w.heap.size, 2, none⟩ = some (.bool b') ∧ w'.cell? ⟨w.heap.size, 3, none⟩ = some (.slice a' k' c')) ∧ w'.cell? ⟨w2.heap.size, 0, none⟩ = some (.bool b3) ∧ w'.cell? ⟨w2.heap.size, 1, none⟩ = some (.slice a3 k3 c3) ∧ w'.cell? ⟨w2.heap.size + 1, 0, none⟩ = some (.bool b4) ∧ w'.cell? ⟨w2.heap.size + 1, 1, none⟩ = some (.slice a4 k4 c4) ∧ w'.cell? ⟨w1.heap.size + 1, 0, none⟩ = some (.bool b2) ∧ w'.cell? ⟨w1.heap.size + 1, 1, none⟩ = some (.slice a2 k2 c2))) (by kernel_rfl) ⟨⟨gx0, gx1, gx2, gx3⟩, gf0, gf1, ge0, ge1, gd0, gd1⟩ (fun hR0 => ?_)
 change wpAnyH _ _ _ _ _ 12 #[false, false, false, false, false, false, false, false, false, false, false, false] _ _
 clear gx0 gx1 gx2 gx3 gf0 gf1 ge0 ge1 gd0 gd1
 refine tz 0 ?_
 (try simp only [Act.put, sa, List.set])
 refine tz 1 ?_
 (try simp only [Act.put, sa, List.set])
 refine tz 2 ?_
 (try simp only [Act.put, sa, List.set])
 refine tz 3 ?_
 (try simp only [Act.put, sa, List.set])
 refine tz 5 ?_
 (try simp only [Act.put, sa, List.set])
 refine tz 9 ?_
 (try simp only [Act.put, sa, List.set])
 refine rz 4 fun K hK => ?_
 go_simp
 go_at_call 147; have hBd := hB.drew; refine (HP.out _ _ w3.drew gr gr).mono ?_; rintro e w4 ⟨⟨v5, rfl, gs⟩, hb⟩; replace hb := (Below.refl w3.heap.size w3).drew.trans hb; obtain ⟨b5, a5, k5, c5, rfl⟩ := gs.num.opened; replace gs := gs.num; replace xx := xx.on hb; replace xr := xr.on hb; replace xd := xd.on hb; replace xf := xf.on hb; replace xe := xe.on hb; replace gd := gd.on hb; replace gf := gf.on hb; replace gr := gr.on hb; replace hB := hB.trans (hb.mono hB.size); have hz4 := hb.size
 (try go_wp2_with fail)
 refine hK.out _ _ (⟨keep4 hb qx hR0.1, (hb.cell (p := ⟨w2.heap.size, 0, none⟩) qf).trans hR0.2.1, (hb.cell (p := ⟨w2.heap.size, 1, none⟩) qf).trans hR0.2.2.1, (hb.cell (p := ⟨w2.heap.size + 1, 0, none⟩) qe).trans hR0.2.2.2.1, (hb.cell (p := ⟨w2.heap.size + 1, 1, none⟩) qe).trans hR0.2.2.2.2.1, (hb.cell (p := ⟨w1.heap.size + 1, 0, none⟩) qd).trans hR0.2.2.2.2.2.1, (hb.cell (p := ⟨w1.heap.size + 1, 1, none⟩) qd).trans hR0.2.2.2.2.2.2⟩) (fun hR1 => ?_)
 clear hK K hR0
 (try simp only [Act.put, sa, List.set])
 replace qx := Nat.lt_of_lt_of_le qx hz4; replace qf := Nat.lt_of_lt_of_le qf hz4; replace qe := Nat.lt_of_lt_of_le qe hz4; replace qd := Nat.lt_of_lt_of_le qd hz4; clear hb hBd
 refine rz 6 fun K hK => ?_
 go_simp
 go_at_call 74; have hBd := hB; refine (HC.out _ _ _ gs gd).mono ?_; rintro e w5 ⟨rfl, hb⟩; replace xx := xx.on hb; replace xr := xr.on hb; replace xd := xd.on hb; replace xf := xf.on hb; replace xe := xe.on hb; replace gd := gd.on hb; replace gf := gf.on hb; replace gs := gs.on hb; replace hB := hB.trans (hb.mono hB.size); have hz5 := hb.size
 (try go_wp2_with fail)
 refine hK.out _ _ (⟨keep4 hb qx hR1.1, (hb.cell (p := ⟨w2.heap.size, 0, none⟩) qf).trans hR1.2.1, (hb.cell (p := ⟨w2.heap.size, 1, none⟩) qf).trans hR1.2.2.1, (hb.cell (p := ⟨w2.heap.size + 1, 0, none⟩) qe).trans hR1.2.2.2.1, (hb.cell (p := ⟨w2.heap.size + 1, 1, none⟩) qe).trans hR1.2.2.2.2.1, (hb.cell (p := ⟨w1.heap.size + 1, 0, none⟩) qd).trans hR1.2.2.2.2.2.1, (hb.cell (p := ⟨w1.heap.size + 1, 1, none⟩) qd).trans hR1.2.2.2.2.2.2⟩) (fun hR2 => ?_)
 clear hK K hR1
 (try simp only [Act.put, sa, List.set])
 replace qx := Nat.lt_of_lt_of_le qx hz5; replace qf := Nat.lt_of_lt_of_le qf hz5; replace qe := Nat.lt_of_lt_of_le qe hz5; replace qd := Nat.lt_of_lt_of_le qd hz5; clear hb hBd
 refine tz 7 ?_
 (try simp only [Act.put, sa, List.set])
 refine rz 8 fun K hK => ?_
 go_simp
 go_at_call 160; have hBd := hB; refine (modes_any _ _ _ _ _ _ _ _ _ _ _ _ _ _).mono ?_; rintro e w6 ⟨rfl, xb, hb⟩; replace xx := xx.on hb; replace xr := xr.on hb; replace xd := xd.on hb; replace xf := xf.on hb; replace xe := xe.on hb; replace gf := gf.on hb; replace hB := hB.trans (hb.mono hB.size); have hz6 := hb.size
 (try go_wp2_with fail)
 refine hK.out _ _ (⟨keep4 hb qx hR2.1, (hb.cell (p := ⟨w2.heap.size, 0, none⟩) qf).trans hR2.2.1, (hb.cell (p := ⟨w2.heap.size, 1, none⟩) qf).trans hR2.2.2.1, (hb.cell (p := ⟨w2.heap.size + 1, 0, none⟩) qe).trans hR2.2.2.2.1, (hb.cell (p := ⟨w2.heap.size + 1, 1, none⟩) qe).trans hR2.2.2.2.2.1, (hb.cell (p := ⟨w1.heap.size + 1, 0, none⟩) qd).trans hR2.2.2.2.2.2.1, (hb.cell (p := ⟨w1.heap.size + 1, 1, none⟩) qd).trans hR2.2.2.2.2.2.2⟩) (fun hR3 => ?_)
 clear hK K hR2
 (try simp only [Act.put, sa, List.set])
 replace qx := Nat.lt_of_lt_of_le qx hz6; replace qf := Nat.lt_of_lt_of_le qf hz6; replace qe := Nat.lt_of_lt_of_le qe hz6; replace qd := Nat.lt_of_lt_of_le qd hz6; clear hb hBd
 refine tk (i := 10) (v := .func (.func 205) #[] #[.pointer (some ⟨w5.heap.size, 0, none⟩)]) rfl (by kernel_rfl) (fun _ _ _ h => h) (by rfl) ?_ (by assumption) ?_
 · (intro w hSw; (try dsimp only at hSw); kernel_rfl)
 (try simp only [Act.put, sa, List.set])
 refine tz 11 ?_
 (try simp only [Act.put, sa, List.set])
 refine wpAnyH_done (by kernel_rfl) ?_ _
 refine NoPanic.normal ?_
 clear hR3 qx qf qe qd xe xd xx
 have pr := xr.all2
 have pf := xf.all2
 have pb := xb.all7
 go_wp2_with fail
 clear pr pf pb
 refine (HM.out _ _ _ _ _ _ xb).mono ?_
 rintro e w7 ⟨rfl, hb⟩
 replace xr := xr.on hb; replace xf := xf.on hb; replace xb := xb.on hb; replace gf := gf.on hb
 have hz7 := hb.size
 try simp at hz7
 replace hB := hB.trans (hb.mono hB.size); clear hb xb
 have pr := xr.all2
 have pf := xf.all2
 go_wp2_with fail
 clear pr pf
 have qf := xf.lt
 obtain ⟨gf0, gf1⟩ := xf.cells2
 refine wp_region_noPanic ?_
 refine wp_region_held_drew (S := (fun w' => w'.cell? ⟨w2.heap.size, 0, none⟩ = some (.bool b3) ∧ w'.cell? ⟨w2.heap.size, 1, none⟩ = some (.slice a3 k3 c3))) (by kernel_rfl) ⟨gf0, gf1⟩ (fun hR0 => ?_)
 change wpAnyH _ _ _ _ _ 4 #[false, false, false, false] _ _
 clear gf0 gf1
 refine tz 0 ?_
 (try simp only [Act.put, sa, List.set])
 refine rz 1 fun K hK => ?_
 go_simp
 go_at_call 19; have hBd := hB.drew; refine (H1.out _).mono ?_; rintro e w8 ⟨⟨v7, rfl, o1⟩, hb⟩; replace hb := (Below.refl w7.heap.size w7).drew.trans hb; obtain ⟨b7, a7, k7, c7, rfl⟩ := o1.num.opened; replace o1 := o1.num; replace xr := xr.on hb; replace xf := xf.on hb; replace gf := gf.on hb; replace hB := hB.trans (hb.mono hB.size); have hz8 := hb.size
 (try go_wp2_with fail)
 refine hK.out _ _ (⟨(hb.cell (p := ⟨w2.heap.size, 0, none⟩) qf).trans hR0.1, (hb.cell (p := ⟨w2.heap.size, 1, none⟩) qf).trans hR0.2⟩) (fun hR1 => ?_)
 clear hK K hR0
 (try simp only [Act.put, sa, List.set])
 replace qf := Nat.lt_of_lt_of_le qf hz8; clear hb hBd
 refine rz 2 fun K hK => ?_
 go_simp
 go_at_call 147; have hBd := hB; refine (HS.out _ _ _ gf o1).mono ?_; rintro e w9 ⟨⟨v8, rfl, o2⟩, hb⟩; obtain ⟨b8, a8, k8, c8, rfl⟩ := o2.num.opened; replace o2 := o2.num; replace xr := xr.on hb; replace xf := xf.on hb; replace hB := hB.trans (hb.mono hB.size); have hz9 := hb.size
 (try go_wp2_with fail)
 refine hK.out _ _ (⟨(hb.cell (p := ⟨w2.heap.size, 0, none⟩) qf).trans hR1.1, (hb.cell (p := ⟨w2.heap.size, 1, none⟩) qf).trans hR1.2⟩) (fun hR2 => ?_)
 clear hK K hR1
 (try simp only [Act.put, sa, List.set])
 replace qf := Nat.lt_of_lt_of_le qf hz9; clear hb hBd
 have pr := xr.all2
 refine rz 3 fun K hK => ?_
 go_simp
 refine hK.out _ _ (⟨cell_store hR2.1 (by omega), cell_store hR2.2 (by omega)⟩) (fun hR3 => ?_)
 clear hK K hR2
 (try simp only [Act.put, sa, List.set])
 clear pr; replace o2 := o2.setB xr rfl 0 (.bool b8); replace xf := xf.put_other (w.heap.size + 1 + 1) 0 (.bool b8) (by omega)
 replace xr : Bk _ (w.heap.size + 1 + 1) #[.bool b8, .slice none 0 0] _ := xr.put 0 (.bool b8)
 replace hB := hB.setCell (p := ⟨w.heap.size + 1 + 1, 0, none⟩) (by first | omega | (simp; omega) | simp) (.bool b8); replace o2 := o2.setB xr rfl 1 (.slice a8 k8 c8); replace xf := xf.put_other (w.heap.size + 1 + 1) 1 (.slice a8 k8 c8) (by omega)
 replace xr : Bk _ (w.heap.size + 1 + 1) #[.bool b8, .slice a8 k8 c8] _ := xr.put 1 (.slice a8 k8 c8)
 replace hB := hB.setCell (p := ⟨w.heap.size + 1 + 1, 1, none⟩) (by first | omega | (simp; omega) | simp) (.slice a8 k8 c8)
 refine wpAnyH_done (by kernel_rfl) ?_ _
 refine NoPanic.normal ?_
 clear hR3 qf xf
 have pr := xr.all2
 go_wp2
 clear pr
 generalize ((w9.setCell ⟨w.heap.size + 1 + 1, 0, none⟩ (.bool b8)).setCell ⟨w.heap.size + 1 + 1, 1, none⟩ (.slice a8 k8 c8)) = WF at *
 have pr := xr.all2
 exact bodyPost_ret (v := .agg #[.bool b8, .slice a8 k8 c8]) (by simp [results, Tryz.results116, go_sem, pr]) rfl ⟨⟨_, rfl, o2⟩, hB⟩
theorem factor_5false (q u : Rat) (b : Bool) (a : Option Addr) (k c : Nat) (b' : Bool) (a' : Option Addr) (k' c' : Nat) (ub : Bool) (ua : Option Addr) (uk uc : Nat) (ub' : Bool) (ua' : Option Addr) (uk' uc' : Nat) (hp : Fz 256 256 q) (hu : Fz 256 256 u) (hu0 : 0 < u.num) (h0 : q.num * (u.den : Int) % ((q.den : Int) * u.num) ≠ 0) (hrup : rup 5 b (q.num * (u.den : Int) % ((q.den : Int) * u.num) + q.num * (u.den : Int) % ((q.den : Int) * u.num)) ((q.den : Int) * u.num) (q.num * (u.den : Int) / ((q.den : Int) * u.num)) = false) (w : World) (h : Fra w (.agg #[.bool b, .slice a k c, .bool b', .slice a' k' c']) q) (g : Fra w (.agg #[.bool ub, .slice ua uk uc, .bool ub', .slice ua' uk' uc']) u) :
  Calls Tryz.prog 116 #[.agg #[.bool b, .slice a k c, .bool b', .slice a' k' c'], .agg #[.bool ub, .slice ua uk uc, .bool ub', .slice ua' uk' uc'], .int .u8 5] w fun e w' => (∃ v, e = .returned v ∧ Num w' v (q.num * (u.den : Int) / ((q.den : Int) * u.num))) ∧ Below w.heap.size w w' := by
 obtain ⟨h1, h1d⟩ := hp
 obtain ⟨h2, h2d⟩ := hu
 have HQ := Lib.hid (fun W (hW : Below w.heap.size w W) => frquotient_any q u b a k c b' a' k' c' ub ua uk uc ub' ua' uk' uc' ⟨h1, h1d⟩ ⟨h2, h2d⟩ W (h.below hW (Nat.le_refl _)) (g.below hW (Nat.le_refl _)))
 have hn := Sz.mul h1 h2d
 have hd := Sz.mul h1d h2
 have hd0 : 0 < (q.den : Int) * u.num := Int.mul_pos (by have := q.den_pos; omega) hu0
 clear h g h1 h1d h2 h2d hu0
 generalize q.num * (u.den : Int) = n at *
 generalize (q.den : Int) * u.num = d at *
 have hm0 := Int.emod_nonneg n (show d ≠ 0 by omega)
 have hm1 := Int.emod_lt_of_pos n hd0
 have hm2 := Int.mul_ediv_add_emod n d
 have hf : Sz 512 (n / d) := hn.le (Int.natAbs_ediv_le_natAbs n d)
 have hr : Sz 512 (n % d) := hd.le (by omega)
 generalize hfl : n / d = fl at *
 generalize hre : n % d = re at *
 rw [Int.mul_comm] at hm2
 have HD := Lib.hid (fun va vb W (h : Num W va n) (g : Num W vb d) => frdivide_known va vb n d fl re ⟨hm2.symm, .inl ⟨hm0, hm1⟩⟩ (hn.mono (by decide)) (hd.mono (by decide)) (by omega) W h g)
 have hz := fun v W (h : Num W v re) => isZero_num v re W h
 rw [show decide (re = 0) = false from decide_eq_false h0] at hz
 have HZ := Lib.hid hz
 clear hz
 have hr2 : Sz 513 (re + re) := Sz.add hr hr
 have hf1 : Sz 513 (fl + 1) := Sz.add hf (Sz.small (z := 1) (by decide))
 have HP := Lib.hid (fun va vb W (h : Num W va re) (g : Num W vb re) => frplus_any va vb re re (re + re) rfl (hr.mono (by decide)) (hr.mono (by decide)) (hr2.mono (by decide)) W h g)
 generalize hrr : re + re = r2 at *
 have HC := Lib.hid (fun va vb W (h : Num W va r2) (g : Num W vb d) => Cmp_any va vb r2 d (hr2.mono (by decide)) (hd.mono (by decide)) W h g)
 obtain ⟨cm, hcm⟩ : ∃ x, x = cmpI r2 d := ⟨_, rfl⟩
 rw [← hcm] at HC
 have hM := fun bf af kf cf B W xb => mode5_any b a k c b' a' k' c' bf af kf cf cm r2 d hcm B W xb
 simp only [show Ending.returned (.bool (decide (d < r2) || (decide (r2 = d) && !b))) = Ending.returned (.bool false) from congrArg (fun x => Ending.returned (.bool x)) (show (decide (d < r2) || (decide (r2 = d) && !b)) = false from hrup)] at hM
 have HM := Lib.hid hM
 clear hM hcm hrr hr2 hf1 hrup hn hd hd0 hm0 hm1 hm2 hf hr hfl hre
 have hB := Below.refl w.heap.size w
 obtain ⟨al, xx, hN⟩ := mk hB #[.bool b, .slice a k c, .bool b', .slice a' k' c'] 101
 replace hB := hN; clear al hN
 try simp only [World.size_alloc] at xx
 obtain ⟨al, xu, hN⟩ := mk hB #[.bool ub, .slice ua uk uc, .bool ub', .slice ua' uk' uc'] 101
 replace xx := xx.on al; replace hB := hN; clear al hN
 try simp only [World.size_alloc] at xu
 obtain ⟨al, xr, hN⟩ := mk hB #[.bool false, .slice none 0 0] 24
 replace xx := xx.on al; replace xu := xu.on al; replace hB := hN; clear al hN
 try simp only [World.size_alloc] at xr
 go_enter Tryz.func116, Tryz.ntmps116
 have px := xx.all4
 have pu := xu.all4
 have pr := xr.all2
 go_wp2_with fail
 clear px pu pr
 refine (HQ.out _ hB).mono ?_
 rintro e w1 ⟨⟨vn, vd, rfl, gn, gd⟩, hb⟩
 obtain ⟨b1, a1, k1, c1, rfl⟩ := gn.num.opened
 obtain ⟨b2, a2, k2, c2, rfl⟩ := gd.num.opened
 replace gn := gn.num; replace gd := gd.num; replace xx := xx.on hb; replace xu := xu.on hb; replace xr := xr.on hb
 have hz1 := hb.size
 try simp at hz1
 replace hB := hB.trans (hb.mono hB.size); clear hb xu HQ
 obtain ⟨al, xn, hN⟩ := mk hB #[.bool b1, .slice a1 k1 c1] 24
 replace xx := xx.on al; replace xr := xr.on al; replace gn := gn.on al; replace gd := gd.on al; replace hB := hN; clear al hN
 try simp only [World.size_alloc] at xn
 obtain ⟨al, xd, hN⟩ := mk hB #[.bool b2, .slice a2 k2 c2] 24
 replace xx := xx.on al; replace xr := xr.on al; replace xn := xn.on al; replace gn := gn.on al; replace gd := gd.on al; replace hB := hN; clear al hN
 try simp only [World.size_alloc] at xd
 have px := xx.all4
 have pr := xr.all2
 have pn := xn.all2
 have pd := xd.all2
 go_wp2_with fail
 clear px pr pn pd
 refine (HD.out _ _ _ gn gd).mono ?_
 rintro e w2 ⟨⟨vq, vr, rfl, gf, gr⟩, hb⟩
 obtain ⟨b3, a3, k3, c3, rfl⟩ := gf.num.opened
 obtain ⟨b4, a4, k4, c4, rfl⟩ := gr.num.opened
 replace gf := gf.num; replace gr := gr.num; replace xx := xx.on hb; replace xr := xr.on hb; replace xn := xn.on hb; replace xd := xd.on hb; replace gn := gn.on hb; replace gd := gd.on hb
 have hz2 := hb.size
 try simp at hz2
 replace hB := hB.trans (hb.mono hB.size); clear hb gn HD xn
 obtain ⟨al, xf, hN⟩ := mk hB #[.bool b3, .slice a3 k3 c3] 24
 replace xx := xx.on al; replace xr := xr.on al; replace xd := xd.on al; replace gd := gd.on al; replace gf := gf.on al; replace gr := gr.on al; replace hB := hN; clear al hN
 try simp only [World.size_alloc] at xf
 obtain ⟨al, xe, hN⟩ := mk hB #[.bool b4, .slice a4 k4 c4] 24
 replace xx := xx.on al; replace xr := xr.on al; replace xd := xd.on al; replace xf := xf.on al; replace gd := gd.on al; replace gf := gf.on al; replace gr := gr.on al; replace hB := hN; clear al hN
 try simp only [World.size_alloc] at xe
 have px := xx.all4
 have pr := xr.all2
 have pd := xd.all2
 have pf := xf.all2
 have pe := xe.all2
 go_wp2_with fail
 clear px pr pd pf pe
 refine (HZ.out _ _ gr).mono ?_
 rintro e w3 ⟨rfl, hb⟩
 replace xx := xx.on hb; replace xr := xr.on hb; replace xd := xd.on hb; replace xf := xf.on hb; replace xe := xe.on hb; replace gd := gd.on hb; replace gf := gf.on hb; replace gr := gr.on hb
 have hz3 := hb.size
 try simp at hz3
 replace hB := hB.trans (hb.mono hB.size); clear hb HZ
 have px := xx.all4
 have pr := xr.all2
 have pd := xd.all2
 have pf := xf.all2
 have pe := xe.all2
 go_wp2_with fail
 clear px pr pd pf pe
 have qx := xx.lt
 have qf := xf.lt
 have qe := xe.lt
 have qd := xd.lt
 obtain ⟨gx0, gx1, gx2, gx3⟩ := xx.cells4
 obtain ⟨gf0, gf1⟩ := xf.cells2
 obtain ⟨ge0, ge1⟩ := xe.cells2
 obtain ⟨gd0, gd1⟩ := xd.cells2
 refine wp_region_noPanic ?_
 refine wp_region_held_drew (S := (fun w' => (w'.cell? ⟨w.heap.size, 0, none⟩ = some (.bool b) ∧ w'.cell? ⟨w.heap.size, 1, none⟩ = some (.slice a k c) ∧ w'.cell? ⟨w.heap.size, 2, none⟩ = some (.bool b') ∧ w'.cell? ⟨w.heap.size, 3, none⟩ = some (.slice a' k' c')) ∧ w'.cell? ⟨w2.heap.size, 0, none⟩ = some (.bool b3) ∧ w'.cell? ⟨w2.heap.size, 1, none⟩ = some (.slice a3 k3 c3) ∧ w'.cell? ⟨w2.heap.size + 1, 0, none⟩ = some (.bool b4) ∧ w'.cell? ⟨w2.heap.size + 1, 1, none⟩ = some (.slice a4 k4 c4) ∧ w'.cell? ⟨w1.heap.size + 1, 0, none⟩ = some (.bool b2) ∧ w'.cell? ⟨w1.heap.size + 1, 1, none⟩ = some (.slice a2 k2 c2))) (by kernel_rfl) ⟨⟨gx0, gx1, gx2, gx3⟩, gf0, gf1, ge0, ge1, gd0, gd1⟩ (fun hR0 => ?_)
 change wpAnyH _ _ _ _ _ 12 #[false, false, false, false, false, false, false, false, false, false, false, false] _ _
 clear gx0 gx1 gx2 gx3 gf0 gf1 ge0 ge1 gd0 gd1
 refine tz 0 ?_
 (try simp only [Act.put, sa, List.set])
 refine tz 1 ?_
 (try simp only [Act.put, sa, List.set])
 refine tz 2 ?_
 (try simp only [Act.put, sa, List.set])
 refine tz 3 ?_
 (try simp only [Act.put, sa, List.set])
 refine tz 5 ?_
 (try simp only [Act.put, sa, List.set])
 refine tz 9 ?_
 (try simp only [Act.put, sa, List.set])
 refine rz 4 fun K hK => ?_
 go_simp
 go_at_call 147; have hBd := hB.drew; refine (HP.out _ _ w3.drew gr gr).mono ?_; rintro e w4 ⟨⟨v5, rfl, gs⟩, hb⟩; replace hb := (Below.refl w3.heap.size w3).drew.trans hb; obtain ⟨b5, a5, k5, c5, rfl⟩ := gs.num.opened; replace gs := gs.num; replace xx := xx.on hb; replace xr := xr.on hb; replace xd := xd.on hb; replace xf := xf.on hb; replace xe := xe.on hb; replace gd := gd.on hb; replace gf := gf.on hb; replace gr := gr.on hb; replace hB := hB.trans (hb.mono hB.size); have hz4 := hb.size
 (try go_wp2_with fail)
 refine hK.out _ _ (⟨keep4 hb qx hR0.1, (hb.cell (p := ⟨w2.heap.size, 0, none⟩) qf).trans hR0.2.1, (hb.cell (p := ⟨w2.heap.size, 1, none⟩) qf).trans hR0.2.2.1, (hb.cell (p := ⟨w2.heap.size + 1, 0, none⟩) qe).trans hR0.2.2.2.1, (hb.cell (p := ⟨w2.heap.size + 1, 1, none⟩) qe).trans hR0.2.2.2.2.1, (hb.cell (p := ⟨w1.heap.size + 1, 0, none⟩) qd).trans hR0.2.2.2.2.2.1, (hb.cell (p := ⟨w1.heap.size + 1, 1, none⟩) qd).trans hR0.2.2.2.2.2.2⟩) (fun hR1 => ?_)
 clear hK K hR0
 (try simp only [Act.put, sa, List.set])
 replace qx := Nat.lt_of_lt_of_le qx hz4; replace qf := Nat.lt_of_lt_of_le qf hz4; replace qe := Nat.lt_of_lt_of_le qe hz4; replace qd := Nat.lt_of_lt_of_le qd hz4; clear hb hBd
 refine rz 6 fun K hK => ?_
 go_simp
 go_at_call 74; have hBd := hB; refine (HC.out _ _ _ gs gd).mono ?_; rintro e w5 ⟨rfl, hb⟩; replace xx := xx.on hb; replace xr := xr.on hb; replace xd := xd.on hb; replace xf := xf.on hb; replace xe := xe.on hb; replace gd := gd.on hb; replace gf := gf.on hb; replace gs := gs.on hb; replace hB := hB.trans (hb.mono hB.size); have hz5 := hb.size
 (try go_wp2_with fail)
 refine hK.out _ _ (⟨keep4 hb qx hR1.1, (hb.cell (p := ⟨w2.heap.size, 0, none⟩) qf).trans hR1.2.1, (hb.cell (p := ⟨w2.heap.size, 1, none⟩) qf).trans hR1.2.2.1, (hb.cell (p := ⟨w2.heap.size + 1, 0, none⟩) qe).trans hR1.2.2.2.1, (hb.cell (p := ⟨w2.heap.size + 1, 1, none⟩) qe).trans hR1.2.2.2.2.1, (hb.cell (p := ⟨w1.heap.size + 1, 0, none⟩) qd).trans hR1.2.2.2.2.2.1, (hb.cell (p := ⟨w1.heap.size + 1, 1, none⟩) qd).trans hR1.2.2.2.2.2.2⟩) (fun hR2 => ?_)
 clear hK K hR1
 (try simp only [Act.put, sa, List.set])
 replace qx := Nat.lt_of_lt_of_le qx hz5; replace qf := Nat.lt_of_lt_of_le qf hz5; replace qe := Nat.lt_of_lt_of_le qe hz5; replace qd := Nat.lt_of_lt_of_le qd hz5; clear hb hBd
 refine tz 7 ?_
 (try simp only [Act.put, sa, List.set])
 refine rz 8 fun K hK => ?_
 go_simp
 go_at_call 160; have hBd := hB; refine (modes_any _ _ _ _ _ _ _ _ _ _ _ _ _ _).mono ?_; rintro e w6 ⟨rfl, xb, hb⟩; replace xx := xx.on hb; replace xr := xr.on hb; replace xd := xd.on hb; replace xf := xf.on hb; replace xe := xe.on hb; replace gf := gf.on hb; replace hB := hB.trans (hb.mono hB.size); have hz6 := hb.size
 (try go_wp2_with fail)
 refine hK.out _ _ (⟨keep4 hb qx hR2.1, (hb.cell (p := ⟨w2.heap.size, 0, none⟩) qf).trans hR2.2.1, (hb.cell (p := ⟨w2.heap.size, 1, none⟩) qf).trans hR2.2.2.1, (hb.cell (p := ⟨w2.heap.size + 1, 0, none⟩) qe).trans hR2.2.2.2.1, (hb.cell (p := ⟨w2.heap.size + 1, 1, none⟩) qe).trans hR2.2.2.2.2.1, (hb.cell (p := ⟨w1.heap.size + 1, 0, none⟩) qd).trans hR2.2.2.2.2.2.1, (hb.cell (p := ⟨w1.heap.size + 1, 1, none⟩) qd).trans hR2.2.2.2.2.2.2⟩) (fun hR3 => ?_)
 clear hK K hR2
 (try simp only [Act.put, sa, List.set])
 replace qx := Nat.lt_of_lt_of_le qx hz6; replace qf := Nat.lt_of_lt_of_le qf hz6; replace qe := Nat.lt_of_lt_of_le qe hz6; replace qd := Nat.lt_of_lt_of_le qd hz6; clear hb hBd
 refine tk (i := 10) (v := .func (.func 205) #[] #[.pointer (some ⟨w5.heap.size, 0, none⟩)]) rfl (by kernel_rfl) (fun _ _ _ h => h) (by rfl) ?_ (by assumption) ?_
 · (intro w hSw; (try dsimp only at hSw); kernel_rfl)
 (try simp only [Act.put, sa, List.set])
 refine tz 11 ?_
 (try simp only [Act.put, sa, List.set])
 refine wpAnyH_done (by kernel_rfl) ?_ _
 refine NoPanic.normal ?_
 clear hR3 qx qf qe qd xe xd xx
 have pr := xr.all2
 have pf := xf.all2
 have pb := xb.all7
 go_wp2_with fail
 clear pr pf pb
 refine (HM.out _ _ _ _ _ _ xb).mono ?_
 rintro e w7 ⟨rfl, hb⟩
 replace xr := xr.on hb; replace xf := xf.on hb; replace xb := xb.on hb; replace gf := gf.on hb
 have hz7 := hb.size
 try simp at hz7
 replace hB := hB.trans (hb.mono hB.size); clear hb xb
 have pr := xr.all2
 have pf := xf.all2
 go_wp2_with fail
 clear pr pf xf; replace gf := gf.setB xr rfl 0 (.bool b3)
 replace xr : Bk _ (w.heap.size + 1 + 1) #[.bool b3, .slice none 0 0] _ := xr.put 0 (.bool b3)
 replace hB := hB.setCell (p := ⟨w.heap.size + 1 + 1, 0, none⟩) (by first | omega | (simp; omega) | simp) (.bool b3); replace gf := gf.setB xr rfl 1 (.slice a3 k3 c3)
 replace xr : Bk _ (w.heap.size + 1 + 1) #[.bool b3, .slice a3 k3 c3] _ := xr.put 1 (.slice a3 k3 c3)
 replace hB := hB.setCell (p := ⟨w.heap.size + 1 + 1, 1, none⟩) (by first | omega | (simp; omega) | simp) (.slice a3 k3 c3)
 generalize ((w7.setCell ⟨w.heap.size + 1 + 1, 0, none⟩ (.bool b3)).setCell ⟨w.heap.size + 1 + 1, 1, none⟩ (.slice a3 k3 c3)) = WF at *
 have pr := xr.all2
 exact bodyPost_ret (v := .agg #[.bool b3, .slice a3 k3 c3]) (by simp [results, Tryz.results116, go_sem, pr]) rfl ⟨⟨_, rfl, gf⟩, hB⟩
theorem factor_6true (q u : Rat) (b : Bool) (a : Option Addr) (k c : Nat) (b' : Bool) (a' : Option Addr) (k' c' : Nat) (ub : Bool) (ua : Option Addr) (uk uc : Nat) (ub' : Bool) (ua' : Option Addr) (uk' uc' : Nat) (hp : Fz 256 256 q) (hu : Fz 256 256 u) (hu0 : 0 < u.num) (h0 : q.num * (u.den : Int) % ((q.den : Int) * u.num) ≠ 0) (hrup : rup 6 b (q.num * (u.den : Int) % ((q.den : Int) * u.num) + q.num * (u.den : Int) % ((q.den : Int) * u.num)) ((q.den : Int) * u.num) (q.num * (u.den : Int) / ((q.den : Int) * u.num)) = true) (w : World) (h : Fra w (.agg #[.bool b, .slice a k c, .bool b', .slice a' k' c']) q) (g : Fra w (.agg #[.bool ub, .slice ua uk uc, .bool ub', .slice ua' uk' uc']) u) :
  Calls Tryz.prog 116 #[.agg #[.bool b, .slice a k c, .bool b', .slice a' k' c'], .agg #[.bool ub, .slice ua uk uc, .bool ub', .slice ua' uk' uc'], .int .u8 6] w fun e w' => (∃ v, e = .returned v ∧ Num w' v (q.num * (u.den : Int) / ((q.den : Int) * u.num) + 1)) ∧ Below w.heap.size w w' := by
 obtain ⟨h1, h1d⟩ := hp
 obtain ⟨h2, h2d⟩ := hu
 have HQ := Lib.hid (fun W (hW : Below w.heap.size w W) => frquotient_any q u b a k c b' a' k' c' ub ua uk uc ub' ua' uk' uc' ⟨h1, h1d⟩ ⟨h2, h2d⟩ W (h.below hW (Nat.le_refl _)) (g.below hW (Nat.le_refl _)))
 have hn := Sz.mul h1 h2d
 have hd := Sz.mul h1d h2
 have hd0 : 0 < (q.den : Int) * u.num := Int.mul_pos (by have := q.den_pos; omega) hu0
 clear h g h1 h1d h2 h2d hu0
 generalize q.num * (u.den : Int) = n at *
 generalize (q.den : Int) * u.num = d at *
 have hm0 := Int.emod_nonneg n (show d ≠ 0 by omega)
 have hm1 := Int.emod_lt_of_pos n hd0
 have hm2 := Int.mul_ediv_add_emod n d
 have hf : Sz 512 (n / d) := hn.le (Int.natAbs_ediv_le_natAbs n d)
 have hr : Sz 512 (n % d) := hd.le (by omega)
 generalize hfl : n / d = fl at *
 generalize hre : n % d = re at *
 rw [Int.mul_comm] at hm2
 have HD := Lib.hid (fun va vb W (h : Num W va n) (g : Num W vb d) => frdivide_known va vb n d fl re ⟨hm2.symm, .inl ⟨hm0, hm1⟩⟩ (hn.mono (by decide)) (hd.mono (by decide)) (by omega) W h g)
 have hz := fun v W (h : Num W v re) => isZero_num v re W h
 rw [show decide (re = 0) = false from decide_eq_false h0] at hz
 have HZ := Lib.hid hz
 clear hz
 have hr2 : Sz 513 (re + re) := Sz.add hr hr
 have hf1 : Sz 513 (fl + 1) := Sz.add hf (Sz.small (z := 1) (by decide))
 have HP := Lib.hid (fun va vb W (h : Num W va re) (g : Num W vb re) => frplus_any va vb re re (re + re) rfl (hr.mono (by decide)) (hr.mono (by decide)) (hr2.mono (by decide)) W h g)
 generalize hrr : re + re = r2 at *
 have HC := Lib.hid (fun va vb W (h : Num W va r2) (g : Num W vb d) => Cmp_any va vb r2 d (hr2.mono (by decide)) (hd.mono (by decide)) W h g)
 have HS := Lib.hid (fun va vb W (h : Num W va fl) (g : Num W vb 1) => frplus_any va vb fl 1 (fl + 1) rfl (hf.mono (by decide)) ((Sz.small (z := 1) (by decide)).mono (by decide)) (hf1.mono (by decide)) W h g)
 have H1 := Lib.hid (fun W => FromInt_any 1 (by decide) (by decide) W)
 obtain ⟨cm, hcm⟩ : ∃ x, x = cmpI r2 d := ⟨_, rfl⟩
 rw [← hcm] at HC
 have hM := fun bf af kf cf B W xb nf => mode6_any b a k c b' a' k' c' bf af kf cf cm fl r2 d hcm B W xb nf
 simp only [show Ending.returned (.bool (decide (d < r2) || (decide (r2 = d) && decide (fl % 2 = 1)))) = Ending.returned (.bool true) from congrArg (fun x => Ending.returned (.bool x)) (show (decide (d < r2) || (decide (r2 = d) && decide (fl % 2 = 1))) = true from hrup)] at hM
 have HM := Lib.hid hM
 clear hM hcm hrr hr2 hf1 hrup hn hd hd0 hm0 hm1 hm2 hf hr hfl hre
 have hB := Below.refl w.heap.size w
 obtain ⟨al, xx, hN⟩ := mk hB #[.bool b, .slice a k c, .bool b', .slice a' k' c'] 101
 replace hB := hN; clear al hN
 try simp only [World.size_alloc] at xx
 obtain ⟨al, xu, hN⟩ := mk hB #[.bool ub, .slice ua uk uc, .bool ub', .slice ua' uk' uc'] 101
 replace xx := xx.on al; replace hB := hN; clear al hN
 try simp only [World.size_alloc] at xu
 obtain ⟨al, xr, hN⟩ := mk hB #[.bool false, .slice none 0 0] 24
 replace xx := xx.on al; replace xu := xu.on al; replace hB := hN; clear al hN
 try simp only [World.size_alloc] at xr
 go_enter Tryz.func116, Tryz.ntmps116
 have px := xx.all4
 have pu := xu.all4
 have pr := xr.all2
 go_wp2_with fail
 clear px pu pr
 refine (HQ.out _ hB).mono ?_
 rintro e w1 ⟨⟨vn, vd, rfl, gn, gd⟩, hb⟩
 obtain ⟨b1, a1, k1, c1, rfl⟩ := gn.num.opened
 obtain ⟨b2, a2, k2, c2, rfl⟩ := gd.num.opened
 replace gn := gn.num; replace gd := gd.num; replace xx := xx.on hb; replace xu := xu.on hb; replace xr := xr.on hb
 have hz1 := hb.size
 try simp at hz1
 replace hB := hB.trans (hb.mono hB.size); clear hb xu HQ
 obtain ⟨al, xn, hN⟩ := mk hB #[.bool b1, .slice a1 k1 c1] 24
 replace xx := xx.on al; replace xr := xr.on al; replace gn := gn.on al; replace gd := gd.on al; replace hB := hN; clear al hN
 try simp only [World.size_alloc] at xn
 obtain ⟨al, xd, hN⟩ := mk hB #[.bool b2, .slice a2 k2 c2] 24
 replace xx := xx.on al; replace xr := xr.on al; replace xn := xn.on al; replace gn := gn.on al; replace gd := gd.on al; replace hB := hN; clear al hN
 try simp only [World.size_alloc] at xd
 have px := xx.all4
 have pr := xr.all2
 have pn := xn.all2
 have pd := xd.all2
 go_wp2_with fail
 clear px pr pn pd
 refine (HD.out _ _ _ gn gd).mono ?_
 rintro e w2 ⟨⟨vq, vr, rfl, gf, gr⟩, hb⟩
 obtain ⟨b3, a3, k3, c3, rfl⟩ := gf.num.opened
 obtain ⟨b4, a4, k4, c4, rfl⟩ := gr.num.opened
 replace gf := gf.num; replace gr := gr.num; replace xx := xx.on hb; replace xr := xr.on hb; replace xn := xn.on hb; replace xd := xd.on hb; replace gn := gn.on hb; replace gd := gd.on hb
 have hz2 := hb.size
 try simp at hz2
 replace hB := hB.trans (hb.mono hB.size); clear hb gn HD xn
 obtain ⟨al, xf, hN⟩ := mk hB #[.bool b3, .slice a3 k3 c3] 24
 replace xx := xx.on al; replace xr := xr.on al; replace xd := xd.on al; replace gd := gd.on al; replace gf := gf.on al; replace gr := gr.on al; replace hB := hN; clear al hN
 try simp only [World.size_alloc] at xf
 obtain ⟨al, xe, hN⟩ := mk hB #[.bool b4, .slice a4 k4 c4] 24
 replace xx := xx.on al; replace xr := xr.on al; replace xd := xd.on al; replace xf := xf.on al; replace gd := gd.on al; replace gf := gf.on al; replace gr := gr.on al; replace hB := hN; clear al hN
 try simp only [World.size_alloc] at xe
 have px := xx.all4
 have pr := xr.all2
 have pd := xd.all2
 have pf := xf.all2
 have pe := xe.all2
 go_wp2_with fail
 clear px pr pd pf pe
 refine (HZ.out _ _ gr).mono ?_
 rintro e w3 ⟨rfl, hb⟩
 replace xx := xx.on hb; replace xr := xr.on hb; replace xd := xd.on hb; replace xf := xf.on hb; replace xe := xe.on hb; replace gd := gd.on hb; replace gf := gf.on hb; replace gr := gr.on hb
 have hz3 := hb.size
 try simp at hz3
 replace hB := hB.trans (hb.mono hB.size); clear hb HZ
 have px := xx.all4
 have pr := xr.all2
 have pd := xd.all2
 have pf := xf.all2
 have pe := xe.all2
 go_wp2_with fail
 clear px pr pd pf pe
 have qx := xx.lt
 have qf := xf.lt
 have qe := xe.lt
 have qd := xd.lt
 obtain ⟨gx0, gx1, gx2, gx3⟩ := xx.cells4
 obtain ⟨gf0, gf1⟩ := xf.cells2
 obtain ⟨ge0, ge1⟩ := xe.cells2
 obtain ⟨gd0, gd1⟩ := xd.cells2
 refine wp_region_noPanic ?_
 refine wp_region_held_drew (S := (fun w' => (w'.cell? ⟨w.heap.size, 0, none⟩ = some (.bool b) ∧ w'.cell? ⟨w.heap.size, 1, none⟩ = some (.slice a k c) ∧ w'.cell? ⟨w.heap.size, 2, none⟩ = some (.bool b') ∧ w'.cell? ⟨w.heap.size, 3, none⟩ = some (.slice a' k' c')) ∧ w'.cell? ⟨w2.heap.size, 0, none⟩ = some (.bool b3) ∧ w'.cell? ⟨w2.heap.size, 1, none⟩ = some (.slice a3 k3 c3) ∧ w'.cell? ⟨w2.heap.size + 1, 0, none⟩ = some (.bool b4) ∧ w'.cell? ⟨w2.heap.size + 1, 1, none⟩ = some (.slice a4 k4 c4) ∧ w'.cell? ⟨w1.heap.size + 1, 0, none⟩ = some (.bool b2) ∧ w'.cell? ⟨w1.heap.size + 1, 1, none⟩ = some (.slice a2 k2 c2))) (by kernel_rfl) ⟨⟨gx0, gx1, gx2, gx3⟩, gf0, gf1, ge0, ge1, gd0, gd1⟩ (fun hR0 => ?_)
 change wpAnyH _ _ _ _ _ 12 #[false, false, false, false, false, false, false, false, false, false, false, false] _ _
 clear gx0 gx1 gx2 gx3 gf0 gf1 ge0 ge1 gd0 gd1
 refine tz 0 ?_
 (try simp only [Act.put, sa, List.set])
 refine tz 1 ?_
 (try simp only [Act.put, sa, List.set])
 refine tz 2 ?_
 (try simp only [Act.put, sa, List.set])
 refine tz 3 ?_
 (try simp only [Act.put, sa, List.set])
 refine tz 5 ?_
 (try simp only [Act.put, sa, List.set])
 refine tz 9 ?_
 (try simp only [Act.put, sa, List.set])
 refine rz 4 fun K hK => ?_
 go_simp
 go_at_call 147; have hBd := hB.drew; refine (HP.out _ _ w3.drew gr gr).mono ?_; rintro e w4 ⟨⟨v5, rfl, gs⟩, hb⟩; replace hb := (Below.refl w3.heap.size w3).drew.trans hb; obtain ⟨b5, a5, k5, c5, rfl⟩ := gs.num.opened; replace gs := gs.num; replace xx := xx.on hb; replace xr := xr.on hb; replace xd := xd.on hb; replace xf := xf.on hb; replace xe := xe.on hb; replace gd := gd.on hb; replace gf := gf.on hb; replace gr := gr.on hb; replace hB := hB.trans (hb.mono hB.size); have hz4 := hb.size
 (try go_wp2_with fail)
 refine hK.out _ _ (⟨keep4 hb qx hR0.1, (hb.cell (p := ⟨w2.heap.size, 0, none⟩) qf).trans hR0.2.1, (hb.cell (p := ⟨w2.heap.size, 1, none⟩) qf).trans hR0.2.2.1, (hb.cell (p := ⟨w2.heap.size + 1, 0, none⟩) qe).trans hR0.2.2.2.1, (hb.cell (p := ⟨w2.heap.size + 1, 1, none⟩) qe).trans hR0.2.2.2.2.1, (hb.cell (p := ⟨w1.heap.size + 1, 0, none⟩) qd).trans hR0.2.2.2.2.2.1, (hb.cell (p := ⟨w1.heap.size + 1, 1, none⟩) qd).trans hR0.2.2.2.2.2.2⟩) (fun hR1 => ?_)
 clear hK K hR0
 (try simp only [Act.put, sa, List.set])
 replace qx := Nat.lt_of_lt_of_le qx hz4; replace qf := Nat.lt_of_lt_of_le qf hz4; replace qe := Nat.lt_of_lt_of_le qe hz4; replace qd := Nat.lt_of_lt_of_le qd hz4; clear hb hBd
 refine rz 6 fun K hK => ?_
 go_simp
 go_at_call 74; have hBd := hB; refine (HC.out _ _ _ gs gd).mono ?_; rintro e w5 ⟨rfl, hb⟩; replace xx := xx.on hb; replace xr := xr.on hb; replace xd := xd.on hb; replace xf := xf.on hb; replace xe := xe.on hb; replace gd := gd.on hb; replace gf := gf.on hb; replace gs := gs.on hb; replace hB := hB.trans (hb.mono hB.size); have hz5 := hb.size
 (try go_wp2_with fail)
 refine hK.out _ _ (⟨keep4 hb qx hR1.1, (hb.cell (p := ⟨w2.heap.size, 0, none⟩) qf).trans hR1.2.1, (hb.cell (p := ⟨w2.heap.size, 1, none⟩) qf).trans hR1.2.2.1, (hb.cell (p := ⟨w2.heap.size + 1, 0, none⟩) qe).trans hR1.2.2.2.1, (hb.cell (p := ⟨w2.heap.size + 1, 1, none⟩) qe).trans hR1.2.2.2.2.1, (hb.cell (p := ⟨w1.heap.size + 1, 0, none⟩) qd).trans hR1.2.2.2.2.2.1, (hb.cell (p := ⟨w1.heap.size + 1, 1, none⟩) qd).trans hR1.2.2.2.2.2.2⟩) (fun hR2 => ?_)
 clear hK K hR1
 (try simp only [Act.put, sa, List.set])
 replace qx := Nat.lt_of_lt_of_le qx hz5; replace qf := Nat.lt_of_lt_of_le qf hz5; replace qe := Nat.lt_of_lt_of_le qe hz5; replace qd := Nat.lt_of_lt_of_le qd hz5; clear hb hBd
 refine tz 7 ?_
 (try simp only [Act.put, sa, List.set])
 refine rz 8 fun K hK => ?_
 go_simp
 go_at_call 160; have hBd := hB; refine (modes_any _ _ _ _ _ _ _ _ _ _ _ _ _ _).mono ?_; rintro e w6 ⟨rfl, xb, hb⟩; replace xx := xx.on hb; replace xr := xr.on hb; replace xd := xd.on hb; replace xf := xf.on hb; replace xe := xe.on hb; replace gf := gf.on hb; replace hB := hB.trans (hb.mono hB.size); have hz6 := hb.size
 (try go_wp2_with fail)
 refine hK.out _ _ (⟨keep4 hb qx hR2.1, (hb.cell (p := ⟨w2.heap.size, 0, none⟩) qf).trans hR2.2.1, (hb.cell (p := ⟨w2.heap.size, 1, none⟩) qf).trans hR2.2.2.1, (hb.cell (p := ⟨w2.heap.size + 1, 0, none⟩) qe).trans hR2.2.2.2.1, (hb.cell (p := ⟨w2.heap.size + 1, 1, none⟩) qe).trans hR2.2.2.2.2.1, (hb.cell (p := ⟨w1.heap.size + 1, 0, none⟩) qd).trans hR2.2.2.2.2.2.1, (hb.cell (p := ⟨w1.heap.size + 1, 1, none⟩) qd).trans hR2.2.2.2.2.2.2⟩) (fun hR3 => ?_)
 clear hK K hR2
 (try simp only [Act.put, sa, List.set])
 replace qx := Nat.lt_of_lt_of_le qx hz6; replace qf := Nat.lt_of_lt_of_le qf hz6; replace qe := Nat.lt_of_lt_of_le qe hz6; replace qd := Nat.lt_of_lt_of_le qd hz6; clear hb hBd
 refine tk (i := 10) (v := .func (.func 206) #[] #[.pointer (some ⟨w5.heap.size, 0, none⟩)]) rfl (by kernel_rfl) (fun _ _ _ h => h) (by rfl) ?_ (by assumption) ?_
 · (intro w hSw; (try dsimp only at hSw); kernel_rfl)
 (try simp only [Act.put, sa, List.set])
 refine tz 11 ?_
 (try simp only [Act.put, sa, List.set])
 refine wpAnyH_done (by kernel_rfl) ?_ _
 refine NoPanic.normal ?_
 clear hR3 qx qf qe qd xe xd xx
 have pr := xr.all2
 have pf := xf.all2
 have pb := xb.all7
 go_wp2_with fail
 clear pr pf pb
 refine (HM.out _ _ _ _ _ _ xb gf).mono ?_
 rintro e w7 ⟨rfl, hb⟩
 replace xr := xr.on hb; replace xf := xf.on hb; replace xb := xb.on hb; replace gf := gf.on hb
 have hz7 := hb.size
 try simp at hz7
 replace hB := hB.trans (hb.mono hB.size); clear hb xb
 have pr := xr.all2
 have pf := xf.all2
 go_wp2_with fail
 clear pr pf
 have qf := xf.lt
 obtain ⟨gf0, gf1⟩ := xf.cells2
 refine wp_region_noPanic ?_
 refine wp_region_held_drew (S := (fun w' => w'.cell? ⟨w2.heap.size, 0, none⟩ = some (.bool b3) ∧ w'.cell? ⟨w2.heap.size, 1, none⟩ = some (.slice a3 k3 c3))) (by kernel_rfl) ⟨gf0, gf1⟩ (fun hR0 => ?_)
 change wpAnyH _ _ _ _ _ 4 #[false, false, false, false] _ _
 clear gf0 gf1
 refine tz 0 ?_
 (try simp only [Act.put, sa, List.set])
 refine rz 1 fun K hK => ?_
 go_simp
 go_at_call 19; have hBd := hB.drew; refine (H1.out _).mono ?_; rintro e w8 ⟨⟨v7, rfl, o1⟩, hb⟩; replace hb := (Below.refl w7.heap.size w7).drew.trans hb; obtain ⟨b7, a7, k7, c7, rfl⟩ := o1.num.opened; replace o1 := o1.num; replace xr := xr.on hb; replace xf := xf.on hb; replace gf := gf.on hb; replace hB := hB.trans (hb.mono hB.size); have hz8 := hb.size
 (try go_wp2_with fail)
 refine hK.out _ _ (⟨(hb.cell (p := ⟨w2.heap.size, 0, none⟩) qf).trans hR0.1, (hb.cell (p := ⟨w2.heap.size, 1, none⟩) qf).trans hR0.2⟩) (fun hR1 => ?_)
 clear hK K hR0
 (try simp only [Act.put, sa, List.set])
 replace qf := Nat.lt_of_lt_of_le qf hz8; clear hb hBd
 refine rz 2 fun K hK => ?_
 go_simp
 go_at_call 147; have hBd := hB; refine (HS.out _ _ _ gf o1).mono ?_; rintro e w9 ⟨⟨v8, rfl, o2⟩, hb⟩; obtain ⟨b8, a8, k8, c8, rfl⟩ := o2.num.opened; replace o2 := o2.num; replace xr := xr.on hb; replace xf := xf.on hb; replace hB := hB.trans (hb.mono hB.size); have hz9 := hb.size
 (try go_wp2_with fail)
 refine hK.out _ _ (⟨(hb.cell (p := ⟨w2.heap.size, 0, none⟩) qf).trans hR1.1, (hb.cell (p := ⟨w2.heap.size, 1, none⟩) qf).trans hR1.2⟩) (fun hR2 => ?_)
 clear hK K hR1
 (try simp only [Act.put, sa, List.set])
 replace qf := Nat.lt_of_lt_of_le qf hz9; clear hb hBd
 have pr := xr.all2
 refine rz 3 fun K hK => ?_
 go_simp
 refine hK.out _ _ (⟨cell_store hR2.1 (by omega), cell_store hR2.2 (by omega)⟩) (fun hR3 => ?_)
 clear hK K hR2
 (try simp only [Act.put, sa, List.set])
 clear pr; replace o2 := o2.setB xr rfl 0 (.bool b8); replace xf := xf.put_other (w.heap.size + 1 + 1) 0 (.bool b8) (by omega)
 replace xr : Bk _ (w.heap.size + 1 + 1) #[.bool b8, .slice none 0 0] _ := xr.put 0 (.bool b8)
 replace hB := hB.setCell (p := ⟨w.heap.size + 1 + 1, 0, none⟩) (by first | omega | (simp; omega) | simp) (.bool b8); replace o2 := o2.setB xr rfl 1 (.slice a8 k8 c8); replace xf := xf.put_other (w.heap.size + 1 + 1) 1 (.slice a8 k8 c8) (by omega)
 replace xr : Bk _ (w.heap.size + 1 + 1) #[.bool b8, .slice a8 k8 c8] _ := xr.put 1 (.slice a8 k8 c8)
 replace hB := hB.setCell (p := ⟨w.heap.size + 1 + 1, 1, none⟩) (by first | omega | (simp; omega) | simp) (.slice a8 k8 c8)
 refine wpAnyH_done (by kernel_rfl) ?_ _
 refine NoPanic.normal ?_
 clear hR3 qf xf
 have pr := xr.all2
 go_wp2
 clear pr
 generalize ((w9.setCell ⟨w.heap.size + 1 + 1, 0, none⟩ (.bool b8)).setCell ⟨w.heap.size + 1 + 1, 1, none⟩ (.slice a8 k8 c8)) = WF at *
 have pr := xr.all2
 exact bodyPost_ret (v := .agg #[.bool b8, .slice a8 k8 c8]) (by simp [results, Tryz.results116, go_sem, pr]) rfl ⟨⟨_, rfl, o2⟩, hB⟩
theorem factor_6false (q u : Rat) (b : Bool) (a : Option Addr) (k c : Nat) (b' : Bool) (a' : Option Addr) (k' c' : Nat) (ub : Bool) (ua : Option Addr) (uk uc : Nat) (ub' : Bool) (ua' : Option Addr) (uk' uc' : Nat) (hp : Fz 256 256 q) (hu : Fz 256 256 u) (hu0 : 0 < u.num) (h0 : q.num * (u.den : Int) % ((q.den : Int) * u.num) ≠ 0) (hrup : rup 6 b (q.num * (u.den : Int) % ((q.den : Int) * u.num) + q.num * (u.den : Int) % ((q.den : Int) * u.num)) ((q.den : Int) * u.num) (q.num * (u.den : Int) / ((q.den : Int) * u.num)) = false) (w : World) (h : Fra w (.agg #[.bool b, .slice a k c, .bool b', .slice a' k' c']) q) (g : Fra w (.agg #[.bool ub, .slice ua uk uc, .bool ub', .slice ua' uk' uc']) u) :
  Calls Tryz.prog 116 #[.agg #[.bool b, .slice a k c, .bool b', .slice a' k' c'], .agg #[.bool ub, .slice ua uk uc, .bool ub', .slice ua' uk' uc'], .int .u8 6] w fun e w' => (∃ v, e = .returned v ∧ Num w' v (q.num * (u.den : Int) / ((q.den : Int) * u.num))) ∧ Below w.heap.size w w' := by
 obtain ⟨h1, h1d⟩ := hp
 obtain ⟨h2, h2d⟩ := hu
 have HQ := Lib.hid (fun W (hW : Below w.heap.size w W) => frquotient_any q u b a k c b' a' k' c' ub ua uk uc ub' ua' uk' uc' ⟨h1, h1d⟩ ⟨h2, h2d⟩ W (h.below hW (Nat.le_refl _)) (g.below hW (Nat.le_refl _)))
 have hn := Sz.mul h1 h2d
 have hd := Sz.mul h1d h2
 have hd0 : 0 < (q.den : Int) * u.num := Int.mul_pos (by have := q.den_pos; omega) hu0
 clear h g h1 h1d h2 h2d hu0
 generalize q.num * (u.den : Int) = n at *
 generalize (q.den : Int) * u.num = d at *
 have hm0 := Int.emod_nonneg n (show d ≠ 0 by omega)
 have hm1 := Int.emod_lt_of_pos n hd0
 have hm2 := Int.mul_ediv_add_emod n d
 have hf : Sz 512 (n / d) := hn.le (Int.natAbs_ediv_le_natAbs n d)
 have hr : Sz 512 (n % d) := hd.le (by omega)
 generalize hfl : n / d = fl at *
 generalize hre : n % d = re at *
 rw [Int.mul_comm] at hm2
 have HD := Lib.hid (fun va vb W (h : Num W va n) (g : Num W vb d) => frdivide_known va vb n d fl re ⟨hm2.symm, .inl ⟨hm0, hm1⟩⟩ (hn.mono (by decide)) (hd.mono (by decide)) (by omega) W h g)
 have hz := fun v W (h : Num W v re) => isZero_num v re W h
 rw [show decide (re = 0) = false from decide_eq_false h0] at hz
 have HZ := Lib.hid hz
 clear hz
 have hr2 : Sz 513 (re + re) := Sz.add hr hr
 have hf1 : Sz 513 (fl + 1) := Sz.add hf (Sz.small (z := 1) (by decide))
 have HP := Lib.hid (fun va vb W (h : Num W va re) (g : Num W vb re) => frplus_any va vb re re (re + re) rfl (hr.mono (by decide)) (hr.mono (by decide)) (hr2.mono (by decide)) W h g)
 generalize hrr : re + re = r2 at *
 have HC := Lib.hid (fun va vb W (h : Num W va r2) (g : Num W vb d) => Cmp_any va vb r2 d (hr2.mono (by decide)) (hd.mono (by decide)) W h g)
 obtain ⟨cm, hcm⟩ : ∃ x, x = cmpI r2 d := ⟨_, rfl⟩
 rw [← hcm] at HC
 have hM := fun bf af kf cf B W xb nf => mode6_any b a k c b' a' k' c' bf af kf cf cm fl r2 d hcm B W xb nf
 simp only [show Ending.returned (.bool (decide (d < r2) || (decide (r2 = d) && decide (fl % 2 = 1)))) = Ending.returned (.bool false) from congrArg (fun x => Ending.returned (.bool x)) (show (decide (d < r2) || (decide (r2 = d) && decide (fl % 2 = 1))) = false from hrup)] at hM
 have HM := Lib.hid hM
 clear hM hcm hrr hr2 hf1 hrup hn hd hd0 hm0 hm1 hm2 hf hr hfl hre
 have hB := Below.refl w.heap.size w
 obtain ⟨al, xx, hN⟩ := mk hB #[.bool b, .slice a k c, .bool b', .slice a' k' c'] 101
 replace hB := hN; clear al hN
 try simp only [World.size_alloc] at xx
 obtain ⟨al, xu, hN⟩ := mk hB #[.bool ub, .slice ua uk uc, .bool ub', .slice ua' uk' uc'] 101
 replace xx := xx.on al; replace hB := hN; clear al hN
 try simp only [World.size_alloc] at xu
 obtain ⟨al, xr, hN⟩ := mk hB #[.bool false, .slice none 0 0] 24
 replace xx := xx.on al; replace xu := xu.on al; replace hB := hN; clear al hN
 try simp only [World.size_alloc] at xr
 go_enter Tryz.func116, Tryz.ntmps116
 have px := xx.all4
 have pu := xu.all4
 have pr := xr.all2
 go_wp2_with fail
 clear px pu pr
 refine (HQ.out _ hB).mono ?_
 rintro e w1 ⟨⟨vn, vd, rfl, gn, gd⟩, hb⟩
 obtain ⟨b1, a1, k1, c1, rfl⟩ := gn.num.opened
 obtain ⟨b2, a2, k2, c2, rfl⟩ := gd.num.opened
 replace gn := gn.num; replace gd := gd.num; replace xx := xx.on hb; replace xu := xu.on hb; replace xr := xr.on hb
 have hz1 := hb.size
 try simp at hz1
 replace hB := hB.trans (hb.mono hB.size); clear hb xu HQ
 obtain ⟨al, xn, hN⟩ := mk hB #[.bool b1, .slice a1 k1 c1] 24
 replace xx := xx.on al; replace xr := xr.on al; replace gn := gn.on al; replace gd := gd.on al; replace hB := hN; clear al hN
 try simp only [World.size_alloc] at xn
 obtain ⟨al, xd, hN⟩ := mk hB #[.bool b2, .slice a2 k2 c2] 24
 replace xx := xx.on al; replace xr := xr.on al; replace xn := xn.on al; replace gn := gn.on al; replace gd := gd.on al; replace hB := hN; clear al hN
 try simp only [World.size_alloc] at xd
 have px := xx.all4
 have pr := xr.all2
 have pn := xn.all2
 have pd := xd.all2
 go_wp2_with fail
 clear px pr pn pd
 refine (HD.out _ _ _ gn gd).mono ?_
 rintro e w2 ⟨⟨vq, vr, rfl, gf, gr⟩, hb⟩
 obtain ⟨b3, a3, k3, c3, rfl⟩ := gf.num.opened
 obtain ⟨b4, a4, k4, c4, rfl⟩ := gr.num.opened
 replace gf := gf.num; replace gr := gr.num; replace xx := xx.on hb; replace xr := xr.on hb; replace xn := xn.on hb; replace xd := xd.on hb; replace gn := gn.on hb; replace gd := gd.on hb
 have hz2 := hb.size
 try simp at hz2
 replace hB := hB.trans (hb.mono hB.size); clear hb gn HD xn
 obtain ⟨al, xf, hN⟩ := mk hB #[.bool b3, .slice a3 k3 c3] 24
 replace xx := xx.on al; replace xr := xr.on al; replace xd := xd.on al; replace gd := gd.on al; replace gf := gf.on al; replace gr := gr.on al; replace hB := hN; clear al hN
 try simp only [World.size_alloc] at xf
 obtain ⟨al, xe, hN⟩ := mk hB #[.bool b4, .slice a4 k4 c4] 24
 replace xx := xx.on al; replace xr := xr.on al; replace xd := xd.on al; replace xf := xf.on al; replace gd := gd.on al; replace gf := gf.on al; replace gr := gr.on al; replace hB := hN; clear al hN
 try simp only [World.size_alloc] at xe
 have px := xx.all4
 have pr := xr.all2
 have pd := xd.all2
 have pf := xf.all2
 have pe := xe.all2
 go_wp2_with fail
 clear px pr pd pf pe
 refine (HZ.out _ _ gr).mono ?_
 rintro e w3 ⟨rfl, hb⟩
 replace xx := xx.on hb; replace xr := xr.on hb; replace xd := xd.on hb; replace xf := xf.on hb; replace xe := xe.on hb; replace gd := gd.on hb; replace gf := gf.on hb; replace gr := gr.on hb
 have hz3 := hb.size
 try simp at hz3
 replace hB := hB.trans (hb.mono hB.size); clear hb HZ
 have px := xx.all4
 have pr := xr.all2
 have pd := xd.all2
 have pf := xf.all2
 have pe := xe.all2
 go_wp2_with fail
 clear px pr pd pf pe
 have qx := xx.lt
 have qf := xf.lt
 have qe := xe.lt
 have qd := xd.lt
 obtain ⟨gx0, gx1, gx2, gx3⟩ := xx.cells4
 obtain ⟨gf0, gf1⟩ := xf.cells2
 obtain ⟨ge0, ge1⟩ := xe.cells2
 obtain ⟨gd0, gd1⟩ := xd.cells2
 refine wp_region_noPanic ?_
 refine wp_region_held_drew (S := (fun w' => (w'.cell? ⟨w.heap.size, 0, none⟩ = some (.bool b) ∧ w'.cell? ⟨w.heap.size, 1, none⟩ = some (.slice a k c) ∧ w'.cell? ⟨w.heap.size, 2, none⟩ = some (.bool b') ∧ w'.cell? ⟨w.heap.size, 3, none⟩ = some (.slice a' k' c')) ∧ w'.cell? ⟨w2.heap.size, 0, none⟩ = some (.bool b3) ∧ w'.cell? ⟨w2.heap.size, 1, none⟩ = some (.slice a3 k3 c3) ∧ w'.cell? ⟨w2.heap.size + 1, 0, none⟩ = some (.bool b4) ∧ w'.cell? ⟨w2.heap.size + 1, 1, none⟩ = some (.slice a4 k4 c4) ∧ w'.cell? ⟨w1.heap.size + 1, 0, none⟩ = some (.bool b2) ∧ w'.cell? ⟨w1.heap.size + 1, 1, none⟩ = some (.slice a2 k2 c2))) (by kernel_rfl) ⟨⟨gx0, gx1, gx2, gx3⟩, gf0, gf1, ge0, ge1, gd0, gd1⟩ (fun hR0 => ?_)
 change wpAnyH _ _ _ _ _ 12 #[false, false, false, false, false, false, false, false, false, false, false, false] _ _
 clear gx0 gx1 gx2 gx3 gf0 gf1 ge0 ge1 gd0 gd1
 refine tz 0 ?_
 (try simp only [Act.put, sa, List.set])
 refine tz 1 ?_
 (try simp only [Act.put, sa, List.set])
 refine tz 2 ?_
 (try simp only [Act.put, sa, List.set])
 refine tz 3 ?_
 (try simp only [Act.put, sa, List.set])
 refine tz 5 ?_
 (try simp only [Act.put, sa, List.set])
 refine tz 9 ?_
 (try simp only [Act.put, sa, List.set])
 refine rz 4 fun K hK => ?_
 go_simp
 go_at_call 147; have hBd := hB.drew; refine (HP.out _ _ w3.drew gr gr).mono ?_; rintro e w4 ⟨⟨v5, rfl, gs⟩, hb⟩; replace hb := (Below.refl w3.heap.size w3).drew.trans hb; obtain ⟨b5, a5, k5, c5, rfl⟩ := gs.num.opened; replace gs := gs.num; replace xx := xx.on hb; replace xr := xr.on hb; replace xd := xd.on hb; replace xf := xf.on hb; replace xe := xe.on hb; replace gd := gd.on hb; replace gf := gf.on hb; replace gr := gr.on hb; replace hB := hB.trans (hb.mono hB.size); have hz4 := hb.size
 (try go_wp2_with fail)
 refine hK.out _ _ (⟨keep4 hb qx hR0.1, (hb.cell (p := ⟨w2.heap.size, 0, none⟩) qf).trans hR0.2.1, (hb.cell (p := ⟨w2.heap.size, 1, none⟩) qf).trans hR0.2.2.1, (hb.cell (p := ⟨w2.heap.size + 1, 0, none⟩) qe).trans hR0.2.2.2.1, (hb.cell (p := ⟨w2.heap.size + 1, 1, none⟩) qe).trans hR0.2.2.2.2.1, (hb.cell (p := ⟨w1.heap.size + 1, 0, none⟩) qd).trans hR0.2.2.2.2.2.1, (hb.cell (p := ⟨w1.heap.size + 1, 1, none⟩) qd).trans hR0.2.2.2.2.2.2⟩) (fun hR1 => ?_)
 clear hK K hR0
 (try simp only [Act.put, sa, List.set])
 replace qx := Nat.lt_of_lt_of_le qx hz4; replace qf := Nat.lt_of_lt_of_le qf hz4; replace qe := Nat.lt_of_lt_of_le qe hz4; replace qd := Nat.lt_of_lt_of_le qd hz4; clear hb hBd
 refine rz 6 fun K hK => ?_
 go_simp
 go_at_call 74; have hBd := hB; refine (HC.out _ _ _ gs gd).mono ?_; rintro e w5 ⟨rfl, hb⟩; replace xx := xx.on hb; replace xr := xr.on hb; replace xd := xd.on hb; replace xf := xf.on hb; replace xe := xe.on hb; replace gd := gd.on hb; replace gf := gf.on hb; replace gs := gs.on hb; replace hB := hB.trans (hb.mono hB.size); have hz5 := hb.size
 (try go_wp2_with fail)
 refine hK.out _ _ (⟨keep4 hb qx hR1.1, (hb.cell (p := ⟨w2.heap.size, 0, none⟩) qf).trans hR1.2.1, (hb.cell (p := ⟨w2.heap.size, 1, none⟩) qf).trans hR1.2.2.1, (hb.cell (p := ⟨w2.heap.size + 1, 0, none⟩) qe).trans hR1.2.2.2.1, (hb.cell (p := ⟨w2.heap.size + 1, 1, none⟩) qe).trans hR1.2.2.2.2.1, (hb.cell (p := ⟨w1.heap.size + 1, 0, none⟩) qd).trans hR1.2.2.2.2.2.1, (hb.cell (p := ⟨w1.heap.size + 1, 1, none⟩) qd).trans hR1.2.2.2.2.2.2⟩) (fun hR2 => ?_)
 clear hK K hR1
 (try simp only [Act.put, sa, List.set])
 replace qx := Nat.lt_of_lt_of_le qx hz5; replace qf := Nat.lt_of_lt_of_le qf hz5; replace qe := Nat.lt_of_lt_of_le qe hz5; replace qd := Nat.lt_of_lt_of_le qd hz5; clear hb hBd
 refine tz 7 ?_
 (try simp only [Act.put, sa, List.set])
 refine rz 8 fun K hK => ?_
 go_simp
 go_at_call 160; have hBd := hB; refine (modes_any _ _ _ _ _ _ _ _ _ _ _ _ _ _).mono ?_; rintro e w6 ⟨rfl, xb, hb⟩; replace xx := xx.on hb; replace xr := xr.on hb; replace xd := xd.on hb; replace xf := xf.on hb; replace xe := xe.on hb; replace gf := gf.on hb; replace hB := hB.trans (hb.mono hB.size); have hz6 := hb.size
 (try go_wp2_with fail)
 refine hK.out _ _ (⟨keep4 hb qx hR2.1, (hb.cell (p := ⟨w2.heap.size, 0, none⟩) qf).trans hR2.2.1, (hb.cell (p := ⟨w2.heap.size, 1, none⟩) qf).trans hR2.2.2.1, (hb.cell (p := ⟨w2.heap.size + 1, 0, none⟩) qe).trans hR2.2.2.2.1, (hb.cell (p := ⟨w2.heap.size + 1, 1, none⟩) qe).trans hR2.2.2.2.2.1, (hb.cell (p := ⟨w1.heap.size + 1, 0, none⟩) qd).trans hR2.2.2.2.2.2.1, (hb.cell (p := ⟨w1.heap.size + 1, 1, none⟩) qd).trans hR2.2.2.2.2.2.2⟩) (fun hR3 => ?_)
 clear hK K hR2
 (try simp only [Act.put, sa, List.set])
 replace qx := Nat.lt_of_lt_of_le qx hz6; replace qf := Nat.lt_of_lt_of_le qf hz6; replace qe := Nat.lt_of_lt_of_le qe hz6; replace qd := Nat.lt_of_lt_of_le qd hz6; clear hb hBd
 refine tk (i := 10) (v := .func (.func 206) #[] #[.pointer (some ⟨w5.heap.size, 0, none⟩)]) rfl (by kernel_rfl) (fun _ _ _ h => h) (by rfl) ?_ (by assumption) ?_
 · (intro w hSw; (try dsimp only at hSw); kernel_rfl)
 (try simp only [Act.put, sa, List.set])
 refine tz 11 ?_
 (try simp only [Act.put, sa, List.set])
 refine wpAnyH_done (by kernel_rfl) ?_ _
 refine NoPanic.normal ?_
 clear hR3 qx qf qe qd xe xd xx
 have pr := xr.all2
 have pf := xf.all2
 have pb := xb.all7
 go_wp2_with fail
 clear pr pf pb
 refine (HM.out _ _ _ _ _ _ xb gf).mono ?_
 rintro e w7 ⟨rfl, hb⟩
 replace xr := xr.on hb; replace xf := xf.on hb; replace xb := xb.on hb; replace gf := gf.on hb
 have hz7 := hb.size
 try simp at hz7
 replace hB := hB.trans (hb.mono hB.size); clear hb xb
 have pr := xr.all2
 have pf := xf.all2
 go_wp2_with fail
 clear pr pf xf; replace gf := gf.setB xr rfl 0 (.bool b3)
 replace xr : Bk _ (w.heap.size + 1 + 1) #[.bool b3, .slice none 0 0] _ := xr.put 0 (.bool b3)
 replace hB := hB.setCell (p := ⟨w.heap.size + 1 + 1, 0, none⟩) (by first | omega | (simp; omega) | simp) (.bool b3); replace gf := gf.setB xr rfl 1 (.slice a3 k3 c3)
 replace xr : Bk _ (w.heap.size + 1 + 1) #[.bool b3, .slice a3 k3 c3] _ := xr.put 1 (.slice a3 k3 c3)
 replace hB := hB.setCell (p := ⟨w.heap.size + 1 + 1, 1, none⟩) (by first | omega | (simp; omega) | simp) (.slice a3 k3 c3)
 generalize ((w7.setCell ⟨w.heap.size + 1 + 1, 0, none⟩ (.bool b3)).setCell ⟨w.heap.size + 1 + 1, 1, none⟩ (.slice a3 k3 c3)) = WF at *
 have pr := xr.all2
 exact bodyPost_ret (v := .agg #[.bool b3, .slice a3 k3 c3]) (by simp [results, Tryz.results116, go_sem, pr]) rfl ⟨⟨_, rfl, gf⟩, hB⟩
end Go.Proofs.YtmbcnfogjncdaaaGreat
