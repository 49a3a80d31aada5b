/- A part of the proofs about fractions. -/
import Derived.Test.YtmbcnfogjncdaaaGreatQFl1
import Derived.Test.YtmbcnfogjncdaaaGreatQFl20
import Derived.Test.YtmbcnfogjncdaaaGreatQFl26
set_option maxRecDepth 100000
set_option maxHeartbeats 2000000
namespace Go.Proofs.YtmbcnfogjncdaaaGreat
open Go.RowKit Wh
theorem Low2_one (bn : Bool) (an : Option Addr) (kn cn : Nat) (bd : Bool) (ad : Option Addr) (kd cd : Nat) (n d : Int) (hn : (dig n.natAbs).length ≤ 8192) (hd : (dig d.natAbs).length ≤ 8192) (hd0 : d ≠ 0) (hg : Nat.gcd n.natAbs d.natAbs = 1) (w : World) (nn : Num w (.agg #[.bool bn, .slice an kn cn]) n) (nd : Num w (.agg #[.bool bd, .slice ad kd cd]) d) :
  Calls Tryz.prog 86 #[.agg #[.bool bn, .slice an kn cn], .agg #[.bool bd, .slice ad kd cd]] w fun e w' => (∃ v, e = .returned v ∧ Fra w' v (Rat.divInt n d)) ∧ Below w.heap.size w w' := by
 obtain ⟨en, ln⟩ := lim_of_num nn
 obtain ⟨ed, ld⟩ := lim_of_num nd
 have HC := Lib.hid (fun W (hW : Below w.heap.size w W) => refCommon_any (.slice an kn cn) (.slice ad kd cd) n.natAbs d.natAbs 8192 hn hd (Nat.le_refl _) W (ln.below hW (Nat.le_refl _)) (ld.below hW (Nat.le_refl _)))
 have ho := fun s W (h : Lim W s (dig (Nat.gcd n.natAbs d.natAbs))) => ref2one_any s _ (dig_Lm _) W h
 rw [hg] at ho
 simp only [show dig 1 = [1] from dig_one_limb (by decide) (by decide), decide_true] at ho
 have HO := Lib.hid ho
 have HM1 := Lib.hid (fun b W (hW : Below w.heap.size w W) => refMake_ex b (.slice an kn cn) (dig n.natAbs) W (ln.below hW (Nat.le_refl _)))
 have HM2 := Lib.hid (fun W (hW : Below w.heap.size w W) => refMake_ex false (.slice ad kd cd) (dig d.natAbs) W (ld.below hW (Nat.le_refl _)))
 have LN := Lib.hid (And.intro (And.intro en ed) (And.intro ln ld))
 have HG := Lib.hid hg
 have HN := Lib.hid hd0
 clear ho hg hn hd en ed ln ld nn nd hd0
 have hB := Below.refl w.heap.size w
 obtain ⟨al, xn, hN⟩ := mk hB #[.bool bn, .slice an kn cn] 24
 replace hB := hN; clear al hN
 try simp only [World.size_alloc] at xn
 obtain ⟨al, xd, hN⟩ := mk hB #[.bool bd, .slice ad kd cd] 24
 replace xn := xn.on al; replace hB := hN; clear al hN
 try simp only [World.size_alloc] at xd
 obtain ⟨al, xr, hN⟩ := mk hB #[.bool false, .slice none 0 0, .bool false, .slice none 0 0] 39
 replace xn := xn.on al; replace xd := xd.on al; replace hB := hN; clear al hN
 try simp only [World.size_alloc] at xr
 go_enter Tryz.func86, Tryz.ntmps86
 have pn := xn.all2
 have pd := xd.all2
 have pr := xr.all4
 go_wp2_with fail
 clear pn pd pr
 refine (HC.out _ hB).mono ?_
 rintro e w1 ⟨⟨v, rfl, lg⟩, hb⟩
 obtain ⟨ag, cg, rfl⟩ := lim_slice lg
 replace xn := xn.on hb; replace xd := xd.on hb; replace xr := xr.on hb
 have hz1 := hb.size
 try simp at hz1
 replace hB := hB.trans (hb.mono hB.size); clear hb
 have lg1 := lg; rw [HG.out] at lg1
 clear lg1
 have pn := xn.all2
 have pd := xd.all2
 have pr := xr.all4
 go_wp2_with fail
 refine (HO.out _ _ (by rw [← show dig (Nat.gcd n.natAbs d.natAbs) = [1] from by rw [HG.out]; exact dig_one_limb (by decide) (by decide)]; exact lg)).mono ?_
 rintro e w2 ⟨rfl, rfl⟩
 go_wp2_with fail
 clear pn pd pr
 have qn := xn.lt
 have qd := xd.lt
 obtain ⟨gn0, gn1⟩ := xn.cells2
 obtain ⟨gd0, gd1⟩ := xd.cells2
 refine wp_region_noPanic ?_
 refine wp_region_held_drew (S := (fun w' => w'.cell? ⟨w.heap.size, 0, none⟩ = some (.bool bn) ∧ w'.cell? ⟨w.heap.size, 1, none⟩ = some (.slice an kn cn) ∧ w'.cell? ⟨w.heap.size + 1, 0, none⟩ = some (.bool bd) ∧ w'.cell? ⟨w.heap.size + 1, 1, none⟩ = some (.slice ad kd cd))) (by kernel_rfl) ⟨gn0, gn1, gd0, gd1⟩ (fun hR0 => ?_)
 change wpAnyH _ _ _ _ _ 13 #[false, false, false, false, false, false, false, false, false, false, false, false, false] _ _
 clear gn0 gn1 gd0 gd1
 refine tz 0 ?_
 (try simp only [Act.put, sa, List.set])
 refine tz 1 ?_
 (try simp only [Act.put, sa, List.set])
 refine tz 2 ?_
 (try simp only [Act.put, sa, List.set])
 refine tz 3 ?_
 (try simp only [Act.put, sa, List.set])
 refine tz 4 ?_
 (try simp only [Act.put, sa, List.set])
 refine tz 5 ?_
 (try simp only [Act.put, sa, List.set])
 refine tz 6 ?_
 (try simp only [Act.put, sa, List.set])
 refine tz 8 ?_
 (try simp only [Act.put, sa, List.set])
 refine tz 9 ?_
 (try simp only [Act.put, sa, List.set])
 refine rz 7 fun K hK => ?_
 go_simp
 go_at_call 64; have hBd := hB.drew; refine (HM1.out _ _ hBd).mono ?_; rintro e w3 ⟨⟨m1, rfl, hm1⟩, hb⟩; replace hb := (Below.refl w2.heap.size w2).drew.trans hb; replace hm1 := Lib.hid hm1; replace xn := xn.on hb; replace xd := xd.on hb; replace xr := xr.on hb; replace hB := hB.trans (hb.mono hB.size); have hz3 := hb.size
 (try go_wp2_with fail)
 refine hK.out _ _ (⟨(hb.cell (p := ⟨w.heap.size, 0, none⟩) qn).trans hR0.1, (hb.cell (p := ⟨w.heap.size, 1, none⟩) qn).trans hR0.2.1, (hb.cell (p := ⟨w.heap.size + 1, 0, none⟩) qd).trans hR0.2.2.1, (hb.cell (p := ⟨w.heap.size + 1, 1, none⟩) qd).trans hR0.2.2.2⟩) (fun hR1 => ?_)
 clear hK K hR0
 (try simp only [Act.put, sa, List.set])
 replace qn := Nat.lt_of_lt_of_le qn hz3; replace qd := Nat.lt_of_lt_of_le qd hz3; clear hb hBd
 refine rz 10 fun K hK => ?_
 go_simp
 go_at_call 64; have hBd := hB; refine (HM2.out _ hBd).mono ?_; rintro e w4 ⟨⟨m2, rfl, hm2⟩, hb⟩; replace hm2 := Lib.hid hm2; replace xn := xn.on hb; replace xd := xd.on hb; replace xr := xr.on hb; replace hB := hB.trans (hb.mono hB.size); have hz4 := hb.size
 (try go_wp2_with fail)
 refine hK.out _ _ (⟨(hb.cell (p := ⟨w.heap.size, 0, none⟩) qn).trans hR1.1, (hb.cell (p := ⟨w.heap.size, 1, none⟩) qn).trans hR1.2.1, (hb.cell (p := ⟨w.heap.size + 1, 0, none⟩) qd).trans hR1.2.2.1, (hb.cell (p := ⟨w.heap.size + 1, 1, none⟩) qd).trans hR1.2.2.2⟩) (fun hR2 => ?_)
 clear hK K hR1
 (try simp only [Act.put, sa, List.set])
 replace qn := Nat.lt_of_lt_of_le qn hz4; replace qd := Nat.lt_of_lt_of_le qd hz4; clear hb hBd
 refine tz 11 ?_
 (try simp only [Act.put, sa, List.set])
 have pr := xr.all4
 refine rz 12 fun K hK => ?_
 go_simp
 refine hK.out _ _ (⟨cell_store4 hR2.1 (by omega), cell_store4 hR2.2.1 (by omega), cell_store4 hR2.2.2.1 (by omega), cell_store4 hR2.2.2.2 (by omega)⟩) (fun hR3 => ?_)
 clear hK K hR2
 (try simp only [Act.put, sa, List.set])
 clear pr; replace xn := xn.put_other4 (w.heap.size + 1 + 1) (.bool m1) (.slice an kn cn) (.bool m2) (.slice ad kd cd) (by omega); replace xd := xd.put_other4 (w.heap.size + 1 + 1) (.bool m1) (.slice an kn cn) (.bool m2) (.slice ad kd cd) (by omega); replace xr := xr.put4 (.bool m1) (.slice an kn cn) (.bool m2) (.slice ad kd cd); replace hB := below4 hB (w.heap.size + 1 + 1) (by first | omega | (simp; omega) | simp) (.bool m1) (.slice an kn cn) (.bool m2) (.slice ad kd cd)
 refine wpAnyH_done (by kernel_rfl) ?_ _
 refine NoPanic.normal ?_
 clear hR3 qn qd xn xd lg
 have pr := xr.all4
 go_wp2
 clear pr
 generalize ((((w4.setCell ⟨w.heap.size + 1 + 1, 0, none⟩ (.bool m1)).setCell ⟨w.heap.size + 1 + 1, 1, none⟩ (.slice an kn cn)).setCell ⟨w.heap.size + 1 + 1, 2, none⟩ (.bool m2)).setCell ⟨w.heap.size + 1 + 1, 3, none⟩ (.slice ad kd cd)) = WF at *
 have pr := xr.all4
 exact bodyPost_ret (v := .agg #[.bool m1, .slice an kn cn, .bool m2, .slice ad kd cd]) (by simp [results, Tryz.results86, go_sem, pr]) rfl ⟨⟨_, rfl, low_fra HN.out LN.out.1.1 LN.out.1.2 (LN.out.2.1.below hB (Nat.le_refl _)) (LN.out.2.2.below hB (Nat.le_refl _)) (by rw [HG.out, Nat.div_one]) (by rw [HG.out, Nat.div_one]) hm1.out (hm2.out.trans (Bool.false_and _))⟩, hB⟩
theorem Low2_more (bn : Bool) (an : Option Addr) (kn cn : Nat) (bd : Bool) (ad : Option Addr) (kd cd : Nat) (n d : Int) (hn : (dig n.natAbs).length ≤ 8192) (hd : (dig d.natAbs).length ≤ 8192) (hd0 : d ≠ 0) (hg : Nat.gcd n.natAbs d.natAbs ≠ 1) (w : World) (nn : Num w (.agg #[.bool bn, .slice an kn cn]) n) (nd : Num w (.agg #[.bool bd, .slice ad kd cd]) d) :
  Calls Tryz.prog 86 #[.agg #[.bool bn, .slice an kn cn], .agg #[.bool bd, .slice ad kd cd]] w fun e w' => (∃ v, e = .returned v ∧ Fra w' v (Rat.divInt n d)) ∧ Below w.heap.size w w' := by
 obtain ⟨en, ln⟩ := lim_of_num nn
 obtain ⟨ed, ld⟩ := lim_of_num nd
 have HC := Lib.hid (fun W (hW : Below w.heap.size w W) => refCommon_any (.slice an kn cn) (.slice ad kd cd) n.natAbs d.natAbs 8192 hn hd (Nat.le_refl _) W (ln.below hW (Nat.le_refl _)) (ld.below hW (Nat.le_refl _)))
 have ho := fun s W (h : Lim W s (dig (Nat.gcd n.natAbs d.natAbs))) => ref2one_any s _ (dig_Lm _) W h
 simp only [show decide (dig (Nat.gcd n.natAbs d.natAbs) = [1]) = false from decide_eq_false (fun e => hg (by have := val_dig (Nat.gcd n.natAbs d.natAbs); rw [e] at this; simpa [val] using this.symm))] at ho
 have hgp : 0 < Nat.gcd n.natAbs d.natAbs := Fq.cf_pos hd0
 have hgl : (dig (Nat.gcd n.natAbs d.natAbs)).length ≤ 8192 := Nat.le_trans (dig_mono (Nat.gcd_le_right _ (by omega))) hd
 have HD1 := Lib.hid (fun sg W (hW : Below w.heap.size w W) (hg : Lim W sg (dig (Nat.gcd n.natAbs d.natAbs))) => refDivided_any (.slice an kn cn) sg n.natAbs (Nat.gcd n.natAbs d.natAbs) 8192 hgp hn hgl (Nat.le_refl _) W (ln.below hW (Nat.le_refl _)) hg)
 have HD2 := Lib.hid (fun sg W (hW : Below w.heap.size w W) (hg : Lim W sg (dig (Nat.gcd n.natAbs d.natAbs))) => refDivided_any (.slice ad kd cd) sg d.natAbs (Nat.gcd n.natAbs d.natAbs) 8192 hgp hd hgl (Nat.le_refl _) W (ld.below hW (Nat.le_refl _)) hg)
 clear hgp hgl
 have HO := Lib.hid ho
 have LN := Lib.hid (And.intro (And.intro en ed) (And.intro ln ld))
 have HG := Lib.hid hg
 have HN := Lib.hid hd0
 clear ho hg hn hd en ed ln ld nn nd hd0
 have hB := Below.refl w.heap.size w
 obtain ⟨al, xn, hN⟩ := mk hB #[.bool bn, .slice an kn cn] 24
 replace hB := hN; clear al hN
 try simp only [World.size_alloc] at xn
 obtain ⟨al, xd, hN⟩ := mk hB #[.bool bd, .slice ad kd cd] 24
 replace xn := xn.on al; replace hB := hN; clear al hN
 try simp only [World.size_alloc] at xd
 obtain ⟨al, xr, hN⟩ := mk hB #[.bool false, .slice none 0 0, .bool false, .slice none 0 0] 39
 replace xn := xn.on al; replace xd := xd.on al; replace hB := hN; clear al hN
 try simp only [World.size_alloc] at xr
 go_enter Tryz.func86, Tryz.ntmps86
 have pn := xn.all2
 have pd := xd.all2
 have pr := xr.all4
 go_wp2_with fail
 clear pn pd pr
 refine (HC.out _ hB).mono ?_
 rintro e w1 ⟨⟨v, rfl, lg⟩, hb⟩
 obtain ⟨ag, cg, rfl⟩ := lim_slice lg
 replace xn := xn.on hb; replace xd := xd.on hb; replace xr := xr.on hb
 have hz1 := hb.size
 try simp at hz1
 replace hB := hB.trans (hb.mono hB.size); clear hb
 have pn := xn.all2
 have pd := xd.all2
 have pr := xr.all4
 go_wp2_with fail
 refine (HO.out _ _ lg).mono ?_
 rintro e w2 ⟨rfl, rfl⟩
 go_wp2_with fail
 clear pn pd pr
 refine (HD1.out _ _ hB lg).mono ?_
 rintro e w3 ⟨⟨vq, vr, rfl, gq, gr⟩, hb⟩
 obtain ⟨aq, cq, rfl⟩ := lim_slice gq
 obtain ⟨ar, cr, rfl⟩ := lim_slice gr
 clear gr; replace xn := xn.on hb; replace xd := xd.on hb; replace xr := xr.on hb; replace lg := lg.on hb
 have hz3 := hb.size
 try simp at hz3
 replace hB := hB.trans (hb.mono hB.size); clear hb
 have pn := xn.all2
 have pd := xd.all2
 have pr := xr.all4
 go_wp2_with fail
 clear pn pd pr
 refine (HD2.out _ _ hB lg).mono ?_
 rintro e w4 ⟨⟨vp, vs, rfl, gp, gs⟩, hb⟩
 obtain ⟨ap, cp, rfl⟩ := lim_slice gp
 obtain ⟨ae, cs, rfl⟩ := lim_slice gs
 clear gs lg; replace xn := xn.on hb; replace xd := xd.on hb; replace xr := xr.on hb; replace gq := gq.on hb
 have hz4 := hb.size
 try simp at hz4
 replace hB := hB.trans (hb.mono hB.size); clear hb
 have pn := xn.all2
 have pd := xd.all2
 have pr := xr.all4
 go_wp2_with fail
 clear pn pd pr
 refine (refMake_ex _ _ _ _ gq).mono ?_
 rintro e w5 ⟨⟨m1, rfl, hm1⟩, hb⟩
 replace hm1 := Lib.hid hm1; replace xn := xn.on hb; replace xd := xd.on hb; replace xr := xr.on hb; replace gq := gq.on hb; replace gp := gp.on hb
 have hz5 := hb.size
 try simp at hz5
 replace hB := hB.trans (hb.mono hB.size); clear hb
 have pn := xn.all2
 have pd := xd.all2
 have pr := xr.all4
 go_wp2_with fail
 clear pn pd pr
 refine (refMake_ex _ _ _ _ gp).mono ?_
 rintro e w6 ⟨⟨m2, rfl, hm2⟩, hb⟩
 replace hm2 := Lib.hid hm2; replace xn := xn.on hb; replace xd := xd.on hb; replace xr := xr.on hb; replace gq := gq.on hb; replace gp := gp.on hb
 have hz6 := hb.size
 try simp at hz6
 replace hB := hB.trans (hb.mono hB.size); clear hb
 have pn := xn.all2
 have pd := xd.all2
 have pr := xr.all4
 go_wp2_with fail
 clear pn pd pr xn xd; replace gq := gq.setB4 xr rfl (.bool m1) (.slice aq (dig (n.natAbs / Nat.gcd n.natAbs d.natAbs)).length cq) (.bool m2) (.slice ap (dig (d.natAbs / Nat.gcd n.natAbs d.natAbs)).length cp) rfl; replace gp := gp.setB4 xr rfl (.bool m1) (.slice aq (dig (n.natAbs / Nat.gcd n.natAbs d.natAbs)).length cq) (.bool m2) (.slice ap (dig (d.natAbs / Nat.gcd n.natAbs d.natAbs)).length cp) rfl; replace xr := xr.put4 (.bool m1) (.slice aq (dig (n.natAbs / Nat.gcd n.natAbs d.natAbs)).length cq) (.bool m2) (.slice ap (dig (d.natAbs / Nat.gcd n.natAbs d.natAbs)).length cp); replace hB := below4 hB (w.heap.size + 1 + 1) (by first | omega | (simp; omega) | simp) (.bool m1) (.slice aq (dig (n.natAbs / Nat.gcd n.natAbs d.natAbs)).length cq) (.bool m2) (.slice ap (dig (d.natAbs / Nat.gcd n.natAbs d.natAbs)).length cp)
 generalize ((((w6.setCell ⟨w.heap.size + 1 + 1, 0, none⟩ (.bool m1)).setCell ⟨w.heap.size + 1 + 1, 1, none⟩ (.slice aq (dig (n.natAbs / Nat.gcd n.natAbs d.natAbs)).length cq)).setCell ⟨w.heap.size + 1 + 1, 2, none⟩ (.bool m2)).setCell ⟨w.heap.size + 1 + 1, 3, none⟩ (.slice ap (dig (d.natAbs / Nat.gcd n.natAbs d.natAbs)).length cp)) = WF at *
 have pr := xr.all4
 exact bodyPost_ret (v := .agg #[.bool m1, .slice aq (dig (n.natAbs / Nat.gcd n.natAbs d.natAbs)).length cq, .bool m2, .slice ap (dig (d.natAbs / Nat.gcd n.natAbs d.natAbs)).length cp]) (by simp [results, Tryz.results86, go_sem, pr]) rfl ⟨⟨_, rfl, low_fra HN.out LN.out.1.1 LN.out.1.2 gq gp rfl rfl hm1.out (hm2.out.trans (Bool.false_and _))⟩, hB⟩
theorem Low2_raw (bn : Bool) (an : Option Addr) (kn cn : Nat) (bd : Bool) (ad : Option Addr) (kd cd : Nat) (n d : Int) (hn : (dig n.natAbs).length ≤ 8192) (hd : (dig d.natAbs).length ≤ 8192) (hd0 : d ≠ 0) (w : World) (nn : Num w (.agg #[.bool bn, .slice an kn cn]) n) (nd : Num w (.agg #[.bool bd, .slice ad kd cd]) d) :
  Calls Tryz.prog 86 #[.agg #[.bool bn, .slice an kn cn], .agg #[.bool bd, .slice ad kd cd]] w fun e w' => (∃ v, e = .returned v ∧ Fra w' v (Rat.divInt n d)) ∧ Below w.heap.size w w' := by
 by_cases hg : Nat.gcd n.natAbs d.natAbs = 1
 · exact Low2_one bn an kn cn bd ad kd cd n d hn hd hd0 hg w nn nd
 · exact Low2_more bn an kn cn bd ad kd cd n d hn hd hd0 hg w nn nd
theorem ref2Fits_yes (bx : Bool) (ax : Option Addr) (kx cx : Nat) (dx : Bool) (ex : Option Addr) (lx mx : Nat) (h1 : kx ≤ 256) (h2 : lx ≤ 256) (w : World)  :
  Calls Tryz.prog 42 #[.agg #[.bool bx, .slice ax kx cx, .bool dx, .slice ex lx mx]] w fun e w' => e = .returned (.bool true) ∧ Below w.heap.size w w' := by
 have g1 : (kx : Int) ≤ 256 := by omega
 have g2 : (lx : Int) ≤ 256 := by omega
 have hB := Below.refl w.heap.size w
 obtain ⟨al, xx, hN⟩ := mk hB #[.bool bx, .slice ax kx cx, .bool dx, .slice ex lx mx] 39
 replace hB := hN; clear al hN
 try simp only [World.size_alloc] at xx
 go_enter Tryz.func42, Tryz.ntmps42
 have px := xx.all4
 have ltx := xx.lt
 go_wp2
 go_ret
 exact ⟨rfl, hB⟩
theorem ref2Fits_no1 (bx : Bool) (ax : Option Addr) (kx cx : Nat) (dx : Bool) (ex : Option Addr) (lx mx : Nat) (h1 : ¬ kx ≤ 256) (w : World)  :
  Calls Tryz.prog 42 #[.agg #[.bool bx, .slice ax kx cx, .bool dx, .slice ex lx mx]] w fun e w' => e = .returned (.bool false) ∧ Below w.heap.size w w' := by
 have g1 : ¬ (kx : Int) ≤ 256 := by omega
 have hB := Below.refl w.heap.size w
 obtain ⟨al, xx, hN⟩ := mk hB #[.bool bx, .slice ax kx cx, .bool dx, .slice ex lx mx] 39
 replace hB := hN; clear al hN
 try simp only [World.size_alloc] at xx
 go_enter Tryz.func42, Tryz.ntmps42
 have px := xx.all4
 have ltx := xx.lt
 go_wp2
 go_ret
 exact ⟨rfl, hB⟩
theorem ref2Fits_no2 (bx : Bool) (ax : Option Addr) (kx cx : Nat) (dx : Bool) (ex : Option Addr) (lx mx : Nat) (h1 : kx ≤ 256) (h2 : ¬ lx ≤ 256) (w : World)  :
  Calls Tryz.prog 42 #[.agg #[.bool bx, .slice ax kx cx, .bool dx, .slice ex lx mx]] w fun e w' => e = .returned (.bool false) ∧ Below w.heap.size w w' := by
 have g1 : (kx : Int) ≤ 256 := by omega
 have g2 : ¬ (lx : Int) ≤ 256 := by omega
 have hB := Below.refl w.heap.size w
 obtain ⟨al, xx, hN⟩ := mk hB #[.bool bx, .slice ax kx cx, .bool dx, .slice ex lx mx] 39
 replace hB := hN; clear al hN
 try simp only [World.size_alloc] at xx
 go_enter Tryz.func42, Tryz.ntmps42
 have px := xx.all4
 have ltx := xx.lt
 go_wp2
 go_ret
 exact ⟨rfl, hB⟩
theorem ref2Fits_any (bx : Bool) (ax : Option Addr) (kx cx : Nat) (dx : Bool) (ex : Option Addr) (lx mx : Nat) (w : World) : Calls Tryz.prog 42 #[.agg #[.bool bx, .slice ax kx cx, .bool dx, .slice ex lx mx]] w fun e w' => e = .returned (.bool (decide (kx ≤ 256) && decide (lx ≤ 256))) ∧ Below w.heap.size w w' := by
  by_cases h1 : kx ≤ 256
  · by_cases h2 : lx ≤ 256
    · rw [decide_eq_true h1, decide_eq_true h2]; exact ref2Fits_yes bx ax kx cx dx ex lx mx h1 h2 w
    · rw [decide_eq_true h1, decide_eq_false h2]; exact ref2Fits_no2 bx ax kx cx dx ex lx mx h1 h2 w
  · rw [decide_eq_false h1]; exact ref2Fits_no1 bx ax kx cx dx ex lx mx h1 w
theorem ref2told_ok (bx : Bool) (ax : Option Addr) (kx cx : Nat) (dx : Bool) (ex : Option Addr) (lx mx : Nat) (hf : (decide (kx ≤ 256) && decide (lx ≤ 256)) = true) (w : World)  :
  Calls Tryz.prog 85 #[.agg #[.bool bx, .slice ax kx cx, .bool dx, .slice ex lx mx]] w fun e w' => e = .returned (.tuple #[.agg #[.bool bx, .slice ax kx cx, .bool dx, .slice ex lx mx], .int .i64 0]) ∧ Below w.heap.size w w' := by
 have HF := Lib.hid (fun W => ref2Fits_any bx ax kx cx dx ex lx mx W)
 rw [hf] at HF
 clear hf
 have hB := Below.refl w.heap.size w
 obtain ⟨al, xx, hN⟩ := mk hB #[.bool bx, .slice ax kx cx, .bool dx, .slice ex lx mx] 39
 replace hB := hN; clear al hN
 try simp only [World.size_alloc] at xx
 obtain ⟨al, xr, hN⟩ := mk hB #[.bool false, .slice none 0 0, .bool false, .slice none 0 0] 39
 replace xx := xx.on al; replace hB := hN; clear al hN
 try simp only [World.size_alloc] at xr
 go_enter Tryz.func85, Tryz.ntmps85
 have px := xx.all4
 have pr := xr.all4
 go_wp2_with fail
 clear px pr
 refine (HF.out _).mono ?_
 rintro e w1 ⟨rfl, hb⟩
 replace xx := xx.on hb; replace xr := xr.on hb
 have hz1 := hb.size
 try simp at hz1
 replace hB := hB.trans (hb.mono hB.size); clear hb
 have px := xx.all4
 have pr := xr.all4
 go_wp2_with fail
 clear px pr xx; replace xr := xr.put4 (.bool bx) (.slice ax kx cx) (.bool dx) (.slice ex lx mx); replace hB := below4 hB (w.heap.size + 1) (by first | omega | (simp; omega) | simp) (.bool bx) (.slice ax kx cx) (.bool dx) (.slice ex lx mx)
 generalize ((((w1.setCell ⟨w.heap.size + 1, 0, none⟩ (.bool bx)).setCell ⟨w.heap.size + 1, 1, none⟩ (.slice ax kx cx)).setCell ⟨w.heap.size + 1, 2, none⟩ (.bool dx)).setCell ⟨w.heap.size + 1, 3, none⟩ (.slice ex lx mx)) = WF at *
 have pr := xr.all4
 exact bodyPost_ret (v := .tuple #[.agg #[.bool bx, .slice ax kx cx, .bool dx, .slice ex lx mx], .int .i64 0]) (by simp [results, Tryz.results85, go_sem, pr]) rfl ⟨rfl, hB⟩
theorem ref2told_long (bx : Bool) (ax : Option Addr) (kx cx : Nat) (dx : Bool) (ex : Option Addr) (lx mx : Nat) (hf : (decide (kx ≤ 256) && decide (lx ≤ 256)) = false) (w : World)  :
  Calls Tryz.prog 85 #[.agg #[.bool bx, .slice ax kx cx, .bool dx, .slice ex lx mx]] w fun e w' => e = .returned (.tuple #[.agg #[.bool false, .slice none 0 0, .bool false, .slice none 0 0], .int .i64 3]) ∧ Below w.heap.size w w' := by
 have HF := Lib.hid (fun W => ref2Fits_any bx ax kx cx dx ex lx mx W)
 rw [hf] at HF
 clear hf
 have hB := Below.refl w.heap.size w
 obtain ⟨al, xx, hN⟩ := mk hB #[.bool bx, .slice ax kx cx, .bool dx, .slice ex lx mx] 39
 replace hB := hN; clear al hN
 try simp only [World.size_alloc] at xx
 obtain ⟨al, xr, hN⟩ := mk hB #[.bool false, .slice none 0 0, .bool false, .slice none 0 0] 39
 replace xx := xx.on al; replace hB := hN; clear al hN
 try simp only [World.size_alloc] at xr
 go_enter Tryz.func85, Tryz.ntmps85
 have px := xx.all4
 have pr := xr.all4
 go_wp2_with fail
 clear px pr
 refine (HF.out _).mono ?_
 rintro e w1 ⟨rfl, hb⟩
 replace xx := xx.on hb; replace xr := xr.on hb
 have hz1 := hb.size
 try simp at hz1
 replace hB := hB.trans (hb.mono hB.size); clear hb
 have px := xx.all4
 have pr := xr.all4
 go_wp2_with fail
 clear px pr xx; replace xr := xr.put4 (.bool false) (.slice none 0 0) (.bool false) (.slice none 0 0); replace hB := below4 hB (w.heap.size + 1) (by first | omega | (simp; omega) | simp) (.bool false) (.slice none 0 0) (.bool false) (.slice none 0 0)
 generalize ((((w1.setCell ⟨w.heap.size + 1, 0, none⟩ (.bool false)).setCell ⟨w.heap.size + 1, 1, none⟩ (.slice none 0 0)).setCell ⟨w.heap.size + 1, 2, none⟩ (.bool false)).setCell ⟨w.heap.size + 1, 3, none⟩ (.slice none 0 0)) = WF at *
 have pr := xr.all4
 exact bodyPost_ret (v := .tuple #[.agg #[.bool false, .slice none 0 0, .bool false, .slice none 0 0], .int .i64 3]) (by simp [results, Tryz.results85, go_sem, pr]) rfl ⟨rfl, hB⟩
theorem ref2Zero_no (bx : Bool) (ax : Option Addr) (kx cx : Nat) (dx : Bool) (ex : Option Addr) (lx mx : Nat) (h1 : kx ≠ 0) (w : World)  :
  Calls Tryz.prog 117 #[.agg #[.bool bx, .slice ax kx cx, .bool dx, .slice ex lx mx]] w fun e w' => e = .returned (.bool false) ∧ Below w.heap.size w w' := by
 have g1 : ((kx : Int) == 0) = false := by rw [beq_eq_false_iff_ne]; omega
 have hB := Below.refl w.heap.size w
 obtain ⟨al, xx, hN⟩ := mk hB #[.bool bx, .slice ax kx cx, .bool dx, .slice ex lx mx] 39
 replace hB := hN; clear al hN
 try simp only [World.size_alloc] at xx
 go_enter Tryz.func117, Tryz.ntmps117
 have px := xx.all4
 have ltx := xx.lt
 go_wp2
 go_ret
 exact ⟨rfl, hB⟩
theorem ref2Valid_n (bx : Bool) (ax : Option Addr) (kx cx : Nat) (dx : Bool) (ex : Option Addr) (lx mx : Nat) (ln0 : List Nat) (v1 : vld bx ln0 = false) (w : World) (ln : Lim w (.slice ax kx cx) ln0) :
  Calls Tryz.prog 104 #[.agg #[.bool bx, .slice ax kx cx, .bool dx, .slice ex lx mx]] w fun e w' => e = .returned (.bool false) ∧ Below w.heap.size w w' := by
 have h1 := fun W (hW : Below w.heap.size w W) => refValid_any bx _ _ W (ln.below hW (Nat.le_refl _))
 rw [v1] at h1
 have HV1 := Lib.hid h1
 clear h1 ln
 have hB := Below.refl w.heap.size w
 obtain ⟨al, xx, hN⟩ := mk hB #[.bool bx, .slice ax kx cx, .bool dx, .slice ex lx mx] 39
 replace hB := hN; clear al hN
 try simp only [World.size_alloc] at xx
 go_enter Tryz.func104, Tryz.ntmps104
 have px := xx.all4
 go_wp2_with fail
 clear px
 refine (HV1.out _ hB).mono ?_
 rintro e w1 ⟨rfl, hb⟩
 replace xx := xx.on hb
 have hz1 := hb.size
 try simp at hz1
 replace hB := hB.trans (hb.mono hB.size); clear hb
 have px := xx.all4
 go_wp2
 go_ret
 exact ⟨rfl, hB⟩
theorem ref2Valid_d (bx : Bool) (ax : Option Addr) (kx cx : Nat) (dx : Bool) (ex : Option Addr) (lx mx : Nat) (ln0 ld0 : List Nat) (v1 : vld bx ln0 = true) (v2 : vld dx ld0 = false) (w : World) (ln : Lim w (.slice ax kx cx) ln0) (ld : Lim w (.slice ex lx mx) ld0) :
  Calls Tryz.prog 104 #[.agg #[.bool bx, .slice ax kx cx, .bool dx, .slice ex lx mx]] w fun e w' => e = .returned (.bool false) ∧ Below w.heap.size w w' := by
 have h1 := fun W (hW : Below w.heap.size w W) => refValid_any bx _ _ W (ln.below hW (Nat.le_refl _))
 rw [v1] at h1
 have HV1 := Lib.hid h1
 clear h1
 have h2 := fun W (hW : Below w.heap.size w W) => refValid_any dx _ _ W (ld.below hW (Nat.le_refl _))
 rw [v2] at h2
 have HV2 := Lib.hid h2
 clear h2 ln ld
 have hB := Below.refl w.heap.size w
 obtain ⟨al, xx, hN⟩ := mk hB #[.bool bx, .slice ax kx cx, .bool dx, .slice ex lx mx] 39
 replace hB := hN; clear al hN
 try simp only [World.size_alloc] at xx
 go_enter Tryz.func104, Tryz.ntmps104
 have px := xx.all4
 go_wp2_with fail
 clear px
 refine (HV1.out _ hB).mono ?_
 rintro e w1 ⟨rfl, hb⟩
 replace xx := xx.on hb
 have hz1 := hb.size
 try simp at hz1
 replace hB := hB.trans (hb.mono hB.size); clear hb
 have px := xx.all4
 go_wp2_with fail
 clear px
 refine (HV2.out _ hB).mono ?_
 rintro e w2 ⟨rfl, hb⟩
 replace xx := xx.on hb
 have hz2 := hb.size
 try simp at hz2
 replace hB := hB.trans (hb.mono hB.size); clear hb
 have px := xx.all4
 go_wp2
 go_ret
 exact ⟨rfl, hB⟩
theorem ref2Valid_fit (bx : Bool) (ax : Option Addr) (kx cx : Nat) (dx : Bool) (ex : Option Addr) (lx mx : Nat) (ln0 ld0 : List Nat) (v1 : vld bx ln0 = true) (v2 : vld dx ld0 = true) (hf : (decide (kx ≤ 256) && decide (lx ≤ 256)) = false) (w : World) (ln : Lim w (.slice ax kx cx) ln0) (ld : Lim w (.slice ex lx mx) ld0) :
  Calls Tryz.prog 104 #[.agg #[.bool bx, .slice ax kx cx, .bool dx, .slice ex lx mx]] w fun e w' => e = .returned (.bool false) ∧ Below w.heap.size w w' := by
 have h1 := fun W (hW : Below w.heap.size w W) => refValid_any bx _ _ W (ln.below hW (Nat.le_refl _))
 rw [v1] at h1
 have HV1 := Lib.hid h1
 clear h1
 have h2 := fun W (hW : Below w.heap.size w W) => refValid_any dx _ _ W (ld.below hW (Nat.le_refl _))
 rw [v2] at h2
 have HV2 := Lib.hid h2
 clear h2
 have h3 := fun W => ref2Fits_any bx ax kx cx dx ex lx mx W
 rw [hf] at h3
 have HF := Lib.hid h3
 clear h3 ln ld
 have hB := Below.refl w.heap.size w
 obtain ⟨al, xx, hN⟩ := mk hB #[.bool bx, .slice ax kx cx, .bool dx, .slice ex lx mx] 39
 replace hB := hN; clear al hN
 try simp only [World.size_alloc] at xx
 go_enter Tryz.func104, Tryz.ntmps104
 have px := xx.all4
 go_wp2_with fail
 clear px
 refine (HV1.out _ hB).mono ?_
 rintro e w1 ⟨rfl, hb⟩
 replace xx := xx.on hb
 have hz1 := hb.size
 try simp at hz1
 replace hB := hB.trans (hb.mono hB.size); clear hb
 have px := xx.all4
 go_wp2_with fail
 clear px
 refine (HV2.out _ hB).mono ?_
 rintro e w2 ⟨rfl, hb⟩
 replace xx := xx.on hb
 have hz2 := hb.size
 try simp at hz2
 replace hB := hB.trans (hb.mono hB.size); clear hb
 have px := xx.all4
 go_wp2_with fail
 clear px
 refine (HF.out _).mono ?_
 rintro e w3 ⟨rfl, hb⟩
 replace xx := xx.on hb
 have hz3 := hb.size
 try simp at hz3
 replace hB := hB.trans (hb.mono hB.size); clear hb
 have px := xx.all4
 go_wp2
 go_ret
 exact ⟨rfl, hB⟩
theorem ref2Valid_neg (bx : Bool) (ax : Option Addr) (kx cx : Nat) (dx : Bool) (ex : Option Addr) (lx mx : Nat) (ln0 ld0 : List Nat) (v1 : vld bx ln0 = true) (v2 : vld dx ld0 = true) (hf : (decide (kx ≤ 256) && decide (lx ≤ 256)) = true) (hn : dx = true) (w : World) (ln : Lim w (.slice ax kx cx) ln0) (ld : Lim w (.slice ex lx mx) ld0) :
  Calls Tryz.prog 104 #[.agg #[.bool bx, .slice ax kx cx, .bool dx, .slice ex lx mx]] w fun e w' => e = .returned (.bool false) ∧ Below w.heap.size w w' := by
 have h1 := fun W (hW : Below w.heap.size w W) => refValid_any bx _ _ W (ln.below hW (Nat.le_refl _))
 rw [v1] at h1
 have HV1 := Lib.hid h1
 clear h1
 have h2 := fun W (hW : Below w.heap.size w W) => refValid_any dx _ _ W (ld.below hW (Nat.le_refl _))
 rw [v2] at h2
 have HV2 := Lib.hid h2
 clear h2
 have h3 := fun W => ref2Fits_any bx ax kx cx dx ex lx mx W
 rw [hf] at h3
 have HF := Lib.hid h3
 clear h3
 subst hn
 clear ln ld
 have hB := Below.refl w.heap.size w
 obtain ⟨al, xx, hN⟩ := mk hB #[.bool bx, .slice ax kx cx, .bool true, .slice ex lx mx] 39
 replace hB := hN; clear al hN
 try simp only [World.size_alloc] at xx
 go_enter Tryz.func104, Tryz.ntmps104
 have px := xx.all4
 go_wp2_with fail
 clear px
 refine (HV1.out _ hB).mono ?_
 rintro e w1 ⟨rfl, hb⟩
 replace xx := xx.on hb
 have hz1 := hb.size
 try simp at hz1
 replace hB := hB.trans (hb.mono hB.size); clear hb
 have px := xx.all4
 go_wp2_with fail
 clear px
 refine (HV2.out _ hB).mono ?_
 rintro e w2 ⟨rfl, hb⟩
 replace xx := xx.on hb
 have hz2 := hb.size
 try simp at hz2
 replace hB := hB.trans (hb.mono hB.size); clear hb
 have px := xx.all4
 go_wp2_with fail
 clear px
 refine (HF.out _).mono ?_
 rintro e w3 ⟨rfl, hb⟩
 replace xx := xx.on hb
 have hz3 := hb.size
 try simp at hz3
 replace hB := hB.trans (hb.mono hB.size); clear hb
 have px := xx.all4
 go_wp2
 go_ret
 exact ⟨rfl, hB⟩
theorem ref2Valid_zero (bx : Bool) (ax : Option Addr) (kx cx : Nat) (dx : Bool) (ex : Option Addr) (lx mx : Nat) (ln0 ld0 : List Nat) (v1 : vld bx ln0 = true) (v2 : vld dx ld0 = true) (hf : (decide (kx ≤ 256) && decide (lx ≤ 256)) = true) (hn : dx = false) (hz : lx = 0) (w : World) (ln : Lim w (.slice ax kx cx) ln0) (ld : Lim w (.slice ex lx mx) ld0) :
  Calls Tryz.prog 104 #[.agg #[.bool bx, .slice ax kx cx, .bool dx, .slice ex lx mx]] w fun e w' => e = .returned (.bool false) ∧ Below w.heap.size w w' := by
 have h1 := fun W (hW : Below w.heap.size w W) => refValid_any bx _ _ W (ln.below hW (Nat.le_refl _))
 rw [v1] at h1
 have HV1 := Lib.hid h1
 clear h1
 have h2 := fun W (hW : Below w.heap.size w W) => refValid_any dx _ _ W (ld.below hW (Nat.le_refl _))
 rw [v2] at h2
 have HV2 := Lib.hid h2
 clear h2
 have h3 := fun W => ref2Fits_any bx ax kx cx dx ex lx mx W
 rw [hf] at h3
 have HF := Lib.hid h3
 clear h3
 subst hn
 subst hz
 clear ln ld
 have hB := Below.refl w.heap.size w
 obtain ⟨al, xx, hN⟩ := mk hB #[.bool bx, .slice ax kx cx, .bool false, .slice ex 0 mx] 39
 replace hB := hN; clear al hN
 try simp only [World.size_alloc] at xx
 go_enter Tryz.func104, Tryz.ntmps104
 have px := xx.all4
 go_wp2_with fail
 clear px
 refine (HV1.out _ hB).mono ?_
 rintro e w1 ⟨rfl, hb⟩
 replace xx := xx.on hb
 have hz1 := hb.size
 try simp at hz1
 replace hB := hB.trans (hb.mono hB.size); clear hb
 have px := xx.all4
 go_wp2_with fail
 clear px
 refine (HV2.out _ hB).mono ?_
 rintro e w2 ⟨rfl, hb⟩
 replace xx := xx.on hb
 have hz2 := hb.size
 try simp at hz2
 replace hB := hB.trans (hb.mono hB.size); clear hb
 have px := xx.all4
 go_wp2_with fail
 clear px
 refine (HF.out _).mono ?_
 rintro e w3 ⟨rfl, hb⟩
 replace xx := xx.on hb
 have hz3 := hb.size
 try simp at hz3
 replace hB := hB.trans (hb.mono hB.size); clear hb
 have px := xx.all4
 go_wp2
 go_ret
 exact ⟨rfl, hB⟩
theorem ref2Valid_gcd (bx : Bool) (ax : Option Addr) (kx cx : Nat) (dx : Bool) (ex : Option Addr) (lx mx : Nat) (ln0 ld0 : List Nat) (v1 : vld bx ln0 = true) (v2 : vld dx ld0 = true) (hf : (decide (kx ≤ 256) && decide (lx ≤ 256)) = true) (hn : dx = false) (hz : lx ≠ 0) (X Y : Nat) (eX : ln0 = dig X) (eY : ld0 = dig Y) (sX : (dig X).length ≤ 8192) (sY : (dig Y).length ≤ 8192) (w : World) (ln : Lim w (.slice ax kx cx) ln0) (ld : Lim w (.slice ex lx mx) ld0) :
  Calls Tryz.prog 104 #[.agg #[.bool bx, .slice ax kx cx, .bool dx, .slice ex lx mx]] w fun e w' => e = .returned (.bool (decide (dig (Nat.gcd X Y) = [1]))) ∧ Below w.heap.size w w' := by
 have h1 := fun W (hW : Below w.heap.size w W) => refValid_any bx _ _ W (ln.below hW (Nat.le_refl _))
 rw [v1] at h1
 have HV1 := Lib.hid h1
 clear h1
 have h2 := fun W (hW : Below w.heap.size w W) => refValid_any dx _ _ W (ld.below hW (Nat.le_refl _))
 rw [v2] at h2
 have HV2 := Lib.hid h2
 clear h2
 have h3 := fun W => ref2Fits_any bx ax kx cx dx ex lx mx W
 rw [hf] at h3
 have HF := Lib.hid h3
 clear h3
 subst hn
 have hz2 : ((lx : Int) == 0) = false := by rw [beq_eq_false_iff_ne]; omega
 have HC := Lib.hid (fun W (hW : Below w.heap.size w W) => refCommon_any (.slice ax kx cx) (.slice ex lx mx) X Y 8192 sX sY (Nat.le_refl _) W (by rw [← eX]; exact ln.below hW (Nat.le_refl _)) (by rw [← eY]; exact ld.below hW (Nat.le_refl _)))
 have HO := Lib.hid (fun s W (h : Lim W s (dig (Nat.gcd X Y))) => ref2one_any s _ (dig_Lm _) W h)
 clear ln ld
 have hB := Below.refl w.heap.size w
 obtain ⟨al, xx, hN⟩ := mk hB #[.bool bx, .slice ax kx cx, .bool false, .slice ex lx mx] 39
 replace hB := hN; clear al hN
 try simp only [World.size_alloc] at xx
 go_enter Tryz.func104, Tryz.ntmps104
 have px := xx.all4
 go_wp2_with fail
 clear px
 refine (HV1.out _ hB).mono ?_
 rintro e w1 ⟨rfl, hb⟩
 replace xx := xx.on hb
 have hz1 := hb.size
 try simp at hz1
 replace hB := hB.trans (hb.mono hB.size); clear hb
 have px := xx.all4
 go_wp2_with fail
 clear px
 refine (HV2.out _ hB).mono ?_
 rintro e w2 ⟨rfl, hb⟩
 replace xx := xx.on hb
 have hz2 := hb.size
 try simp at hz2
 replace hB := hB.trans (hb.mono hB.size); clear hb
 have px := xx.all4
 go_wp2_with fail
 clear px
 refine (HF.out _).mono ?_
 rintro e w3 ⟨rfl, hb⟩
 replace xx := xx.on hb
 have hz3 := hb.size
 try simp at hz3
 replace hB := hB.trans (hb.mono hB.size); clear hb
 have px := xx.all4
 go_wp2_with fail
 clear px
 refine (HC.out _ hB).mono ?_
 rintro e w4 ⟨⟨v, rfl, lg⟩, hb⟩
 obtain ⟨ag, cg, rfl⟩ := lim_slice lg
 replace xx := xx.on hb
 have hz4 := hb.size
 try simp at hz4
 replace hB := hB.trans (hb.mono hB.size); clear hb
 go_wp2_with fail
 refine (HO.out _ _ lg).mono ?_
 rintro e w9 ⟨rfl, rfl⟩
 have px := xx.all4
 go_wp2
 go_ret
 exact ⟨rfl, hB⟩
theorem ref2Valid_any (bx : Bool) (ax : Option Addr) (kx cx : Nat) (dx : Bool) (ex : Option Addr) (lx mx : Nat) (l l' : List Nat) (w : World) (h : Lim w (.slice ax kx cx) l) (hm : Lm l) (h' : Lim w (.slice ex lx mx) l') (hm' : Lm l') :
    Calls Tryz.prog 104 #[.agg #[.bool bx, .slice ax kx cx, .bool dx, .slice ex lx mx]] w fun e w' => e = .returned (.bool (fvld bx l dx l')) ∧ Below w.heap.size w w' := by
  have e1 := lim_len h
  have e2 := lim_len h'
  unfold fvld
  cases v1 : vld bx l with
  | false => exact ref2Valid_n bx ax kx cx dx ex lx mx l v1 w h
  | true =>
    cases v2 : vld dx l' with
    | false => exact ref2Valid_d bx ax kx cx dx ex lx mx l l' v1 v2 w h h'
    | true =>
      rw [Bool.true_and, Bool.true_and, ← e1, ← e2]
      cases hf : (decide (kx ≤ 256) && decide (lx ≤ 256)) with
      | false => exact ref2Valid_fit bx ax kx cx dx ex lx mx l l' v1 v2 hf w h h'
      | true =>
        rw [Bool.true_and]
        cases hn : dx with
        | true =>
          rw [Bool.not_true, Bool.and_false, Bool.false_and]
          have := ref2Valid_neg bx ax kx cx dx ex lx mx l l' v1 v2 hf hn w h h'
          rw [hn] at this
          exact this
        | false =>
          rw [Bool.not_false, Bool.and_true]
          by_cases hz : lx = 0
          · have hl0 : l' = [] := List.eq_nil_of_length_eq_zero (by omega)
            rw [hl0, decide_eq_false (by simp), Bool.false_and]
            have := ref2Valid_zero bx ax kx cx dx ex lx mx l l' v1 v2 hf hn hz w h h'
            rw [hn] at this
            exact this
          · have hl0 : l' ≠ [] := fun e => hz (by rw [e2, e]; rfl)
            rw [decide_eq_true hl0, Bool.true_and]
            obtain ⟨n, -, e3, -⟩ := num_of_vld v1 h hm
            obtain ⟨d, -, e4, -⟩ := num_of_vld v2 h' hm'
            simp only [Bool.and_eq_true, decide_eq_true_eq] at hf
            have := ref2Valid_gcd bx ax kx cx dx ex lx mx l l' v1 v2 (by simp only [Bool.and_eq_true, decide_eq_true_eq]; exact hf) hn hz n.natAbs d.natAbs e3 e4 (by rw [← e3]; omega) (by rw [← e4]; omega) w h h'
            rw [hn] at this
            rw [e3, e4, val_dig, val_dig, show (Nat.gcd n.natAbs d.natAbs == 1) = decide (dig (Nat.gcd n.natAbs d.natAbs) = [1]) from by rw [Bool.eq_iff_iff, beq_iff_eq, decide_eq_true_eq]; exact (dig_one_iff _).symm]
            exact this
end Go.Proofs.YtmbcnfogjncdaaaGreat
namespace Go.Proofs.YtmbcnfogjncdaaaGreat
open Go.RowKit Wh
theorem fra_lens {W : World} {b : Bool} {a : Option Addr} {k c : Nat} {d : Bool} {e : Option Addr} {l m : Nat} {q : Rat} (h : Fra W (.agg #[.bool b, .slice a k c, .bool d, .slice e l m]) q) : k = (dig q.num.natAbs).length ∧ l = (dig q.den).length := by
 obtain ⟨-, -, h1, h2⟩ := fra_nums h
 have e1 := (num_len h1).1
 have e2 := (num_len h2).1
 rw [Int.natAbs_natCast] at e2
 exact ⟨e1, e2⟩
theorem Low2_num (va vb : Value) (n d : Int) (hn : (dig n.natAbs).length ≤ 8192) (hd : (dig d.natAbs).length ≤ 8192) (hd0 : d ≠ 0) (w : World) (h : Num w va n) (g : Num w vb d) : Calls Tryz.prog 86 #[va, vb] w fun e w' => (∃ v, e = .returned v ∧ Fra w' v (Rat.divInt n d)) ∧ Below w.heap.size w w' := by
 obtain ⟨b1, x, k, c, rfl⟩ := h.opened
 obtain ⟨b2, y, l, e, rfl⟩ := g.opened
 exact Low2_raw b1 x k c b2 y l e n d hn hd hd0 w h g
end Go.Proofs.YtmbcnfogjncdaaaGreat
