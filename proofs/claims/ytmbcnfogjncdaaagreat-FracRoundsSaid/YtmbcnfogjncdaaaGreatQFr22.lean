/- A part of the proofs about fractions. -/
import Derived.Test.YtmbcnfogjncdaaaGreatQFr1
import Derived.Test.YtmbcnfogjncdaaaGreatQFr11
import Derived.Test.YtmbcnfogjncdaaaGreatQFr13
import Derived.Test.YtmbcnfogjncdaaaGreatQFr17
import Derived.Test.YtmbcnfogjncdaaaGreatQFr18
import Derived.Test.YtmbcnfogjncdaaaGreatQFr21
set_option maxRecDepth 100000
set_option maxHeartbeats 4000000
namespace Go.Proofs.YtmbcnfogjncdaaaGreat
open Go.RowKit Wh
theorem low_parts {n d : Int} (hd : d ≠ 0) : n.natAbs / Nat.gcd n.natAbs d.natAbs = (Rat.divInt n d).num.natAbs ∧ d.natAbs / Nat.gcd n.natAbs d.natAbs = (Rat.divInt n d).den ∧ decide ((Rat.divInt n d).num < 0) = ((decide (n < 0) != decide (d < 0)) && decide (dig (Rat.divInt n d).num.natAbs ≠ [])) := by
  obtain ⟨P1, P2⟩ := Fq.parts (n := n) hd
  have hg := Fq.cf_pos (n := n) hd
  have ha := Fq.cf_abs (n := n) hd
  have hn := Fq.cf_neg (n := n) hd
  have h0 := Fq.cf_ne (n := n) hd
  have e1 := congrArg Int.natAbs P1
  have e2 := congrArg Int.natAbs P2
  rw [Int.natAbs_mul, ha] at e1 e2
  rw [Int.natAbs_natCast] at e2
  refine ⟨?_, ?_, ?_⟩
  · conv => lhs; lhs; rw [e1]
    exact Nat.mul_div_cancel _ hg
  · conv => lhs; lhs; rw [e2]
    exact Nat.mul_div_cancel _ hg
  · generalize (Rat.divInt n d).num = z at *
    generalize Fq.cf n d = c at *
    clear P2 e1 e2 ha hg
    rw [show decide (dig z.natAbs ≠ []) = decide (z ≠ 0) from by rw [decide_eq_decide]; exact not_congr ((dig_nil_iff _).trans Int.natAbs_eq_zero)]
    subst P1
    rcases Int.lt_trichotomy z 0 with hz | hz | hz
    · rcases Int.lt_or_le d 0 with g | g
      · have hc := hn.2 g
        have := Int.mul_pos_of_neg_of_neg hz hc
        rw [decide_eq_true hz, decide_eq_false (by omega : ¬ z * c < 0), decide_eq_true g, decide_eq_true (by omega : z ≠ 0)]; rfl
      · have hc : 0 < c := by omega
        have := Int.mul_neg_of_neg_of_pos hz hc
        rw [decide_eq_true hz, decide_eq_true this, decide_eq_false (by omega : ¬ d < 0), decide_eq_true (by omega : z ≠ 0)]; rfl
    · subst hz
      rw [decide_eq_false (by omega : ¬ (0 : Int) < 0), decide_eq_false (by simp : ¬ (0 : Int) ≠ 0), Bool.and_false]
    · rcases Int.lt_or_le d 0 with g | g
      · have hc := hn.2 g
        have := Int.mul_neg_of_pos_of_neg hz hc
        rw [decide_eq_false (by omega : ¬ z < 0), decide_eq_true this, decide_eq_true g]; rfl
      · have hc : 0 < c := by omega
        have := Int.mul_pos hz hc
        rw [decide_eq_false (by omega : ¬ z < 0), decide_eq_false (by omega : ¬ z * c < 0), decide_eq_false (by omega : ¬ d < 0)]; rfl
theorem low_fra {W : World} {n d : Int} (hd : d ≠ 0) {bn bd m1 m2 : Bool} (en : bn = decide (n < 0)) (ed : bd = decide (d < 0)) {s t : Value} {A B : Nat} (h1 : Lim W s (dig A)) (h2 : Lim W t (dig B)) (hA : A = n.natAbs / Nat.gcd n.natAbs d.natAbs) (hB : B = d.natAbs / Nat.gcd n.natAbs d.natAbs) (hm1 : m1 = ((bn != bd) && decide (dig A ≠ []))) (hm2 : m2 = false) : Fra W (.agg #[.bool m1, s, .bool m2, t]) (Rat.divInt n d) := by
 obtain ⟨e1, e2, e3⟩ := low_parts (n := n) hd
 rw [e1] at hA
 rw [e2] at hB
 subst hA; subst hB
 refine ⟨s, t, ?_, h1, h2⟩
 rw [hm1, hm2, en, ed, e3]
theorem lim_of_num {W : World} {b : Bool} {s : Value} {z : Int} (h : Num W (.agg #[.bool b, s]) z) : b = decide (z < 0) ∧ Lim W s (dig z.natAbs) := by
 obtain ⟨s', e, h⟩ := h
 simp only [Value.agg.injEq, Array.mk.injEq, List.cons.injEq, Value.bool.injEq, and_true] at e
 obtain ⟨rfl, rfl⟩ := e
 exact ⟨rfl, h⟩
theorem refMake_ex (b : Bool) (s : Value) (l : List Nat) (w : World) (h : Lim w s l) :
  Calls Tryz.prog 64 #[.bool b, s] w fun e w' => (∃ m, e = .returned (.agg #[.bool m, s]) ∧ m = (b && decide (l ≠ []))) ∧ Below w.heap.size w w' :=
 (refMake_any b s l w h).mono fun _ _ ⟨he, hb⟩ => ⟨⟨_, he, rfl⟩, hb⟩
theorem Lowest_one (bn : Bool) (an : Option Addr) (kn cn : Nat) (bd : Bool) (ad : Option Addr) (kd cd : Nat) (n d : Int) (hn : (dig n.natAbs).length ≤ 16384) (hd0 : d ≠ 0) (hd2 : d.natAbs < 65536) (hg : Nat.gcd n.natAbs d.natAbs = 1) (w : World) (nn : Num w (.agg #[.bool bn, .slice an kn cn]) n) (nd : Num w (.agg #[.bool bd, .slice ad kd cd]) d) :
  Calls Tryz.prog 86 #[.agg #[.bool bn, .slice an kn cn], .agg #[.bool bd, .slice ad kd cd]] w fun e w' => (∃ v, e = .returned v ∧ Fra w' v (Rat.divInt n d)) ∧ Below w.heap.size w w' := by
 obtain ⟨en, ln⟩ := lim_of_num nn
 obtain ⟨ed, ld⟩ := lim_of_num nd
 have HC := Lib.hid (fun W (hW : Below w.heap.size w W) => refCommon_one (.slice an kn cn) (.slice ad kd cd) n.natAbs d.natAbs hn hd2 W (ln.below hW (Nat.le_refl _)) (ld.below hW (Nat.le_refl _)))
 have ho := fun s W (h : Lim W s (dig (Nat.gcd n.natAbs d.natAbs))) => ref2one_any s _ (dig_Lm _) W h
 rw [hg] at ho
 simp only [show dig 1 = [1] from dig_one_limb (by decide) (by decide), decide_true] at ho
 have HO := Lib.hid ho
 have HM1 := Lib.hid (fun b W (hW : Below w.heap.size w W) => refMake_ex b (.slice an kn cn) (dig n.natAbs) W (ln.below hW (Nat.le_refl _)))
 have HM2 := Lib.hid (fun W (hW : Below w.heap.size w W) => refMake_ex false (.slice ad kd cd) (dig d.natAbs) W (ld.below hW (Nat.le_refl _)))
 have LN := Lib.hid (And.intro (And.intro en ed) (And.intro ln ld))
 have HG := Lib.hid hg
 have HN := Lib.hid hd0
 clear ho hg hn hd2 en ed ln ld nn nd hd0
 have hB := Below.refl w.heap.size w
 obtain ⟨al, xn, hN⟩ := mk hB #[.bool bn, .slice an kn cn] 24
 replace hB := hN; clear al hN
 try simp only [World.size_alloc] at xn
 obtain ⟨al, xd, hN⟩ := mk hB #[.bool bd, .slice ad kd cd] 24
 replace xn := xn.on al; replace hB := hN; clear al hN
 try simp only [World.size_alloc] at xd
 obtain ⟨al, xr, hN⟩ := mk hB #[.bool false, .slice none 0 0, .bool false, .slice none 0 0] 39
 replace xn := xn.on al; replace xd := xd.on al; replace hB := hN; clear al hN
 try simp only [World.size_alloc] at xr
 go_enter Tryz.func86, Tryz.ntmps86
 have pn := xn.all2
 have pd := xd.all2
 have pr := xr.all4
 go_wp2_with fail
 clear pn pd pr
 refine (HC.out _ hB).mono ?_
 rintro e w1 ⟨⟨v, rfl, lg⟩, hb⟩
 obtain ⟨ag, cg, rfl⟩ := lim_slice lg
 replace xn := xn.on hb; replace xd := xd.on hb; replace xr := xr.on hb
 have hz1 := hb.size
 try simp at hz1
 replace hB := hB.trans (hb.mono hB.size); clear hb
 have lg1 := lg; rw [HG.out] at lg1
 clear lg1
 have pn := xn.all2
 have pd := xd.all2
 have pr := xr.all4
 go_wp2_with fail
 refine (HO.out _ _ (by rw [← show dig (Nat.gcd n.natAbs d.natAbs) = [1] from by rw [HG.out]; exact dig_one_limb (by decide) (by decide)]; exact lg)).mono ?_
 rintro e w2 ⟨rfl, rfl⟩
 go_wp2_with fail
 clear pn pd pr
 have qn := xn.lt
 have qd := xd.lt
 obtain ⟨gn0, gn1⟩ := xn.cells2
 obtain ⟨gd0, gd1⟩ := xd.cells2
 refine wp_region_noPanic ?_
 refine wp_region_held_drew (S := (fun w' => w'.cell? ⟨w.heap.size, 0, none⟩ = some (.bool bn) ∧ w'.cell? ⟨w.heap.size, 1, none⟩ = some (.slice an kn cn) ∧ w'.cell? ⟨w.heap.size + 1, 0, none⟩ = some (.bool bd) ∧ w'.cell? ⟨w.heap.size + 1, 1, none⟩ = some (.slice ad kd cd))) (by kernel_rfl) ⟨gn0, gn1, gd0, gd1⟩ (fun hR0 => ?_)
 change wpAnyH _ _ _ _ _ 13 #[false, false, false, false, false, false, false, false, false, false, false, false, false] _ _
 clear gn0 gn1 gd0 gd1
 refine tz 0 ?_
 (try simp only [Act.put, sa, List.set])
 refine tz 1 ?_
 (try simp only [Act.put, sa, List.set])
 refine tz 2 ?_
 (try simp only [Act.put, sa, List.set])
 refine tz 3 ?_
 (try simp only [Act.put, sa, List.set])
 refine tz 4 ?_
 (try simp only [Act.put, sa, List.set])
 refine tz 5 ?_
 (try simp only [Act.put, sa, List.set])
 refine tz 6 ?_
 (try simp only [Act.put, sa, List.set])
 refine tz 8 ?_
 (try simp only [Act.put, sa, List.set])
 refine tz 9 ?_
 (try simp only [Act.put, sa, List.set])
 refine rz 7 fun K hK => ?_
 go_simp
 go_at_call 64; have hBd := hB.drew; refine (HM1.out _ _ hBd).mono ?_; rintro e w3 ⟨⟨m1, rfl, hm1⟩, hb⟩; replace hb := (Below.refl w2.heap.size w2).drew.trans hb; replace hm1 := Lib.hid hm1; replace xn := xn.on hb; replace xd := xd.on hb; replace xr := xr.on hb; replace hB := hB.trans (hb.mono hB.size); have hz3 := hb.size
 (try go_wp2_with fail)
 refine hK.out _ _ (⟨(hb.cell (p := ⟨w.heap.size, 0, none⟩) qn).trans hR0.1, (hb.cell (p := ⟨w.heap.size, 1, none⟩) qn).trans hR0.2.1, (hb.cell (p := ⟨w.heap.size + 1, 0, none⟩) qd).trans hR0.2.2.1, (hb.cell (p := ⟨w.heap.size + 1, 1, none⟩) qd).trans hR0.2.2.2⟩) (fun hR1 => ?_)
 clear hK K hR0
 (try simp only [Act.put, sa, List.set])
 replace qn := Nat.lt_of_lt_of_le qn hz3; replace qd := Nat.lt_of_lt_of_le qd hz3; clear hb hBd
 refine rz 10 fun K hK => ?_
 go_simp
 go_at_call 64; have hBd := hB; refine (HM2.out _ hBd).mono ?_; rintro e w4 ⟨⟨m2, rfl, hm2⟩, hb⟩; replace hm2 := Lib.hid hm2; replace xn := xn.on hb; replace xd := xd.on hb; replace xr := xr.on hb; replace hB := hB.trans (hb.mono hB.size); have hz4 := hb.size
 (try go_wp2_with fail)
 refine hK.out _ _ (⟨(hb.cell (p := ⟨w.heap.size, 0, none⟩) qn).trans hR1.1, (hb.cell (p := ⟨w.heap.size, 1, none⟩) qn).trans hR1.2.1, (hb.cell (p := ⟨w.heap.size + 1, 0, none⟩) qd).trans hR1.2.2.1, (hb.cell (p := ⟨w.heap.size + 1, 1, none⟩) qd).trans hR1.2.2.2⟩) (fun hR2 => ?_)
 clear hK K hR1
 (try simp only [Act.put, sa, List.set])
 replace qn := Nat.lt_of_lt_of_le qn hz4; replace qd := Nat.lt_of_lt_of_le qd hz4; clear hb hBd
 refine tz 11 ?_
 (try simp only [Act.put, sa, List.set])
 have pr := xr.all4
 refine rz 12 fun K hK => ?_
 go_simp
 refine hK.out _ _ (⟨cell_store4 hR2.1 (by omega), cell_store4 hR2.2.1 (by omega), cell_store4 hR2.2.2.1 (by omega), cell_store4 hR2.2.2.2 (by omega)⟩) (fun hR3 => ?_)
 clear hK K hR2
 (try simp only [Act.put, sa, List.set])
 clear pr; replace xn := xn.put_other4 (w.heap.size + 1 + 1) (.bool m1) (.slice an kn cn) (.bool m2) (.slice ad kd cd) (by omega); replace xd := xd.put_other4 (w.heap.size + 1 + 1) (.bool m1) (.slice an kn cn) (.bool m2) (.slice ad kd cd) (by omega); replace xr := xr.put4 (.bool m1) (.slice an kn cn) (.bool m2) (.slice ad kd cd); replace hB := below4 hB (w.heap.size + 1 + 1) (by first | omega | (simp; omega) | simp) (.bool m1) (.slice an kn cn) (.bool m2) (.slice ad kd cd)
 refine wpAnyH_done (by kernel_rfl) ?_ _
 refine NoPanic.normal ?_
 clear hR3 qn qd xn xd lg
 have pr := xr.all4
 go_wp2
 clear pr
 generalize ((((w4.setCell ⟨w.heap.size + 1 + 1, 0, none⟩ (.bool m1)).setCell ⟨w.heap.size + 1 + 1, 1, none⟩ (.slice an kn cn)).setCell ⟨w.heap.size + 1 + 1, 2, none⟩ (.bool m2)).setCell ⟨w.heap.size + 1 + 1, 3, none⟩ (.slice ad kd cd)) = WF at *
 have pr := xr.all4
 exact bodyPost_ret (v := .agg #[.bool m1, .slice an kn cn, .bool m2, .slice ad kd cd]) (by simp [results, Tryz.results86, go_sem, pr]) rfl ⟨⟨_, rfl, low_fra HN.out LN.out.1.1 LN.out.1.2 (LN.out.2.1.below hB (Nat.le_refl _)) (LN.out.2.2.below hB (Nat.le_refl _)) (by rw [HG.out, Nat.div_one]) (by rw [HG.out, Nat.div_one]) hm1.out (hm2.out.trans (Bool.false_and _))⟩, hB⟩
theorem Lowest_more (bn : Bool) (an : Option Addr) (kn cn : Nat) (bd : Bool) (ad : Option Addr) (kd cd : Nat) (n d : Int) (hn : (dig n.natAbs).length ≤ 16384) (hd0 : d ≠ 0) (hd2 : d.natAbs < 65536) (hg : Nat.gcd n.natAbs d.natAbs ≠ 1) (w : World) (nn : Num w (.agg #[.bool bn, .slice an kn cn]) n) (nd : Num w (.agg #[.bool bd, .slice ad kd cd]) d) :
  Calls Tryz.prog 86 #[.agg #[.bool bn, .slice an kn cn], .agg #[.bool bd, .slice ad kd cd]] w fun e w' => (∃ v, e = .returned v ∧ Fra w' v (Rat.divInt n d)) ∧ Below w.heap.size w w' := by
 obtain ⟨en, ln⟩ := lim_of_num nn
 obtain ⟨ed, ld⟩ := lim_of_num nd
 have HC := Lib.hid (fun W (hW : Below w.heap.size w W) => refCommon_one (.slice an kn cn) (.slice ad kd cd) n.natAbs d.natAbs hn hd2 W (ln.below hW (Nat.le_refl _)) (ld.below hW (Nat.le_refl _)))
 have ho := fun s W (h : Lim W s (dig (Nat.gcd n.natAbs d.natAbs))) => ref2one_any s _ (dig_Lm _) W h
 simp only [show decide (dig (Nat.gcd n.natAbs d.natAbs) = [1]) = false from decide_eq_false (fun e => hg (by have := val_dig (Nat.gcd n.natAbs d.natAbs); rw [e] at this; simpa [val] using this.symm))] at ho
 have hgp : 0 < Nat.gcd n.natAbs d.natAbs := Fq.cf_pos hd0
 have hgl : Nat.gcd n.natAbs d.natAbs < 65536 := Nat.lt_of_le_of_lt (Nat.gcd_le_right _ (by omega)) hd2
 have hdl : (dig d.natAbs).length ≤ 16384 := Nat.le_trans ((length_dig_le _ 1).2 (by omega)) (by decide)
 have HD1 := Lib.hid (fun sg W (hW : Below w.heap.size w W) (hg : Lim W sg (dig (Nat.gcd n.natAbs d.natAbs))) => refDivided_one (.slice an kn cn) sg n.natAbs (Nat.gcd n.natAbs d.natAbs) hn hgp hgl W (ln.below hW (Nat.le_refl _)) hg)
 have HD2 := Lib.hid (fun sg W (hW : Below w.heap.size w W) (hg : Lim W sg (dig (Nat.gcd n.natAbs d.natAbs))) => refDivided_one (.slice ad kd cd) sg d.natAbs (Nat.gcd n.natAbs d.natAbs) hdl hgp hgl W (ld.below hW (Nat.le_refl _)) hg)
 clear hgp hgl hdl
 have HO := Lib.hid ho
 have LN := Lib.hid (And.intro (And.intro en ed) (And.intro ln ld))
 have HG := Lib.hid hg
 have HN := Lib.hid hd0
 clear ho hg hn hd2 en ed ln ld nn nd hd0
 have hB := Below.refl w.heap.size w
 obtain ⟨al, xn, hN⟩ := mk hB #[.bool bn, .slice an kn cn] 24
 replace hB := hN; clear al hN
 try simp only [World.size_alloc] at xn
 obtain ⟨al, xd, hN⟩ := mk hB #[.bool bd, .slice ad kd cd] 24
 replace xn := xn.on al; replace hB := hN; clear al hN
 try simp only [World.size_alloc] at xd
 obtain ⟨al, xr, hN⟩ := mk hB #[.bool false, .slice none 0 0, .bool false, .slice none 0 0] 39
 replace xn := xn.on al; replace xd := xd.on al; replace hB := hN; clear al hN
 try simp only [World.size_alloc] at xr
 go_enter Tryz.func86, Tryz.ntmps86
 have pn := xn.all2
 have pd := xd.all2
 have pr := xr.all4
 go_wp2_with fail
 clear pn pd pr
 refine (HC.out _ hB).mono ?_
 rintro e w1 ⟨⟨v, rfl, lg⟩, hb⟩
 obtain ⟨ag, cg, rfl⟩ := lim_slice lg
 replace xn := xn.on hb; replace xd := xd.on hb; replace xr := xr.on hb
 have hz1 := hb.size
 try simp at hz1
 replace hB := hB.trans (hb.mono hB.size); clear hb
 have pn := xn.all2
 have pd := xd.all2
 have pr := xr.all4
 go_wp2_with fail
 refine (HO.out _ _ lg).mono ?_
 rintro e w2 ⟨rfl, rfl⟩
 go_wp2_with fail
 clear pn pd pr
 refine (HD1.out _ _ hB lg).mono ?_
 rintro e w3 ⟨⟨vq, vr, rfl, gq, gr⟩, hb⟩
 obtain ⟨aq, cq, rfl⟩ := lf_slice0 gq
 obtain ⟨ar, cr, rfl⟩ := lf_slice0 gr
 replace gq := gq.1; clear gr; replace xn := xn.on hb; replace xd := xd.on hb; replace xr := xr.on hb; replace lg := lg.on hb
 have hz3 := hb.size
 try simp at hz3
 replace hB := hB.trans (hb.mono hB.size); clear hb
 have pn := xn.all2
 have pd := xd.all2
 have pr := xr.all4
 go_wp2_with fail
 clear pn pd pr
 refine (HD2.out _ _ hB lg).mono ?_
 rintro e w4 ⟨⟨vp, vs, rfl, gp, gs⟩, hb⟩
 obtain ⟨ap, cp, rfl⟩ := lf_slice0 gp
 obtain ⟨ae, cs, rfl⟩ := lf_slice0 gs
 replace gp := gp.1; clear gs lg; replace xn := xn.on hb; replace xd := xd.on hb; replace xr := xr.on hb; replace gq := gq.on hb
 have hz4 := hb.size
 try simp at hz4
 replace hB := hB.trans (hb.mono hB.size); clear hb
 have pn := xn.all2
 have pd := xd.all2
 have pr := xr.all4
 go_wp2_with fail
 clear pn pd pr
 refine (refMake_ex _ _ _ _ gq).mono ?_
 rintro e w5 ⟨⟨m1, rfl, hm1⟩, hb⟩
 replace hm1 := Lib.hid hm1; replace xn := xn.on hb; replace xd := xd.on hb; replace xr := xr.on hb; replace gq := gq.on hb; replace gp := gp.on hb
 have hz5 := hb.size
 try simp at hz5
 replace hB := hB.trans (hb.mono hB.size); clear hb
 have pn := xn.all2
 have pd := xd.all2
 have pr := xr.all4
 go_wp2_with fail
 clear pn pd pr
 refine (refMake_ex _ _ _ _ gp).mono ?_
 rintro e w6 ⟨⟨m2, rfl, hm2⟩, hb⟩
 replace hm2 := Lib.hid hm2; replace xn := xn.on hb; replace xd := xd.on hb; replace xr := xr.on hb; replace gq := gq.on hb; replace gp := gp.on hb
 have hz6 := hb.size
 try simp at hz6
 replace hB := hB.trans (hb.mono hB.size); clear hb
 have pn := xn.all2
 have pd := xd.all2
 have pr := xr.all4
 go_wp2_with fail
 clear pn pd pr xn xd; replace gq := gq.setB4 xr rfl (.bool m1) (.slice aq (dig (n.natAbs / Nat.gcd n.natAbs d.natAbs)).length cq) (.bool m2) (.slice ap (dig (d.natAbs / Nat.gcd n.natAbs d.natAbs)).length cp) rfl; replace gp := gp.setB4 xr rfl (.bool m1) (.slice aq (dig (n.natAbs / Nat.gcd n.natAbs d.natAbs)).length cq) (.bool m2) (.slice ap (dig (d.natAbs / Nat.gcd n.natAbs d.natAbs)).length cp) rfl; replace xr := xr.put4 (.bool m1) (.slice aq (dig (n.natAbs / Nat.gcd n.natAbs d.natAbs)).length cq) (.bool m2) (.slice ap (dig (d.natAbs / Nat.gcd n.natAbs d.natAbs)).length cp); replace hB := below4 hB (w.heap.size + 1 + 1) (by first | omega | (simp; omega) | simp) (.bool m1) (.slice aq (dig (n.natAbs / Nat.gcd n.natAbs d.natAbs)).length cq) (.bool m2) (.slice ap (dig (d.natAbs / Nat.gcd n.natAbs d.natAbs)).length cp)
 generalize ((((w6.setCell ⟨w.heap.size + 1 + 1, 0, none⟩ (.bool m1)).setCell ⟨w.heap.size + 1 + 1, 1, none⟩ (.slice aq (dig (n.natAbs / Nat.gcd n.natAbs d.natAbs)).length cq)).setCell ⟨w.heap.size + 1 + 1, 2, none⟩ (.bool m2)).setCell ⟨w.heap.size + 1 + 1, 3, none⟩ (.slice ap (dig (d.natAbs / Nat.gcd n.natAbs d.natAbs)).length cp)) = WF at *
 have pr := xr.all4
 exact bodyPost_ret (v := .agg #[.bool m1, .slice aq (dig (n.natAbs / Nat.gcd n.natAbs d.natAbs)).length cq, .bool m2, .slice ap (dig (d.natAbs / Nat.gcd n.natAbs d.natAbs)).length cp]) (by simp [results, Tryz.results86, go_sem, pr]) rfl ⟨⟨_, rfl, low_fra HN.out LN.out.1.1 LN.out.1.2 gq gp rfl rfl hm1.out (hm2.out.trans (Bool.false_and _))⟩, hB⟩
theorem Lowest_any (bn : Bool) (an : Option Addr) (kn cn : Nat) (bd : Bool) (ad : Option Addr) (kd cd : Nat) (n d : Int) (hn : (dig n.natAbs).length ≤ 16384) (hd0 : d ≠ 0) (hd2 : d.natAbs < 65536) (w : World) (nn : Num w (.agg #[.bool bn, .slice an kn cn]) n) (nd : Num w (.agg #[.bool bd, .slice ad kd cd]) d) :
  Calls Tryz.prog 86 #[.agg #[.bool bn, .slice an kn cn], .agg #[.bool bd, .slice ad kd cd]] w fun e w' => (∃ v, e = .returned v ∧ Fra w' v (Rat.divInt n d)) ∧ Below w.heap.size w w' := by
 by_cases hg : Nat.gcd n.natAbs d.natAbs = 1
 · exact Lowest_one bn an kn cn bd ad kd cd n d hn hd0 hd2 hg w nn nd
 · exact Lowest_more bn an kn cn bd ad kd cd n d hn hd0 hd2 hg w nn nd
theorem Quick_any (n d : Int) (h1 : -9223372036854775808 ≤ n) (h2 : n ≤ 9223372036854775807) (hd0 : d ≠ 0) (hd2 : d.natAbs < 65536) (w : World) :
  Calls Tryz.prog 121 #[.int .i64 n, .int .i64 d] w fun e w' => (∃ v, e = .returned v ∧ Fra w' v (Rat.divInt n d)) ∧ Below w.heap.size w w' := by
 have H1 := Lib.hid (fun W => refFromInt_any n h1 h2 W)
 have H2 := Lib.hid (fun W => refFromInt_any d (by omega) (by omega) W)
 have hl : (dig n.natAbs).length ≤ 16384 := Nat.le_trans ((length_dig_le _ 4).2 (by show n.natAbs < 18446744073709551616; omega)) (by decide)
 have HL := Lib.hid (fun bn an kn cn bd ad kd cd W nn nd => Lowest_any bn an kn cn bd ad kd cd n d hl hd0 hd2 W nn nd)
 clear h1 h2 hl hd0 hd2
 have hB := Below.refl w.heap.size w
 obtain ⟨al, xr, hN⟩ := mk hB #[.bool false, .slice none 0 0, .bool false, .slice none 0 0] 39
 replace hB := hN; clear al hN
 try simp only [World.size_alloc] at xr
 go_enter Tryz.func121, Tryz.ntmps121
 have pr := xr.all4
 go_wp2_with fail
 clear pr
 refine (H1.out _).mono ?_
 rintro e w1 ⟨⟨v, rfl, gn⟩, hb⟩
 obtain ⟨b1, a1, k1, c1, rfl⟩ := gn.num.opened
 replace gn := gn.num; replace xr := xr.on hb
 have hz1 := hb.size
 try simp at hz1
 replace hB := hB.trans (hb.mono hB.size); clear hb
 have pr := xr.all4
 go_wp2_with fail
 clear pr
 refine (H2.out _).mono ?_
 rintro e w2 ⟨⟨v2, rfl, gd⟩, hb⟩
 obtain ⟨b2, a2, k2, c2, rfl⟩ := gd.num.opened
 replace gd := gd.num; replace xr := xr.on hb; replace gn := gn.on hb
 have hz2 := hb.size
 try simp at hz2
 replace hB := hB.trans (hb.mono hB.size); clear hb
 have pr := xr.all4
 go_wp2_with fail
 clear pr
 refine (HL.out _ _ _ _ _ _ _ _ _ gn gd).mono ?_
 rintro e w3 ⟨⟨v3, rfl, gf⟩, hb⟩
 obtain ⟨b5, a5, k5, c5, b6, a6, k6, c6, rfl⟩ := gf.opened
 replace xr := xr.on hb; replace gn := gn.on hb; replace gd := gd.on hb
 have hz3 := hb.size
 try simp at hz3
 replace hB := hB.trans (hb.mono hB.size); clear hb gn gd
 have pr := xr.all4
 go_wp2_with fail
 clear pr; replace gf := gf.setB4 xr rfl (.bool b5) (.slice a5 k5 c5) (.bool b6) (.slice a6 k6 c6) rfl; replace xr := xr.put4 (.bool b5) (.slice a5 k5 c5) (.bool b6) (.slice a6 k6 c6); replace hB := below4 hB w.heap.size (by first | omega | (simp; omega) | simp) (.bool b5) (.slice a5 k5 c5) (.bool b6) (.slice a6 k6 c6)
 generalize ((((w3.setCell ⟨w.heap.size, 0, none⟩ (.bool b5)).setCell ⟨w.heap.size, 1, none⟩ (.slice a5 k5 c5)).setCell ⟨w.heap.size, 2, none⟩ (.bool b6)).setCell ⟨w.heap.size, 3, none⟩ (.slice a6 k6 c6)) = WF at *
 have pr := xr.all4
 exact bodyPost_ret (v := .agg #[.bool b5, .slice a5 k5 c5, .bool b6, .slice a6 k6 c6]) (by simp [results, Tryz.results121, go_sem, pr]) rfl ⟨⟨_, rfl, gf⟩, hB⟩
theorem quick_any (n d : Int) (h1 : -9223372036854775808 ≤ n) (h2 : n ≤ 9223372036854775807) (hd0 : d ≠ 0) (hd2 : d.natAbs < 65536) (w : World) :
  Calls Tryz.prog 38 #[.int .i64 n, .int .i64 d] w fun e w' => (∃ v, e = .returned v ∧ Fra w' v (Rat.divInt n d)) ∧ Below w.heap.size w w' := by
 have HQ := Lib.hid (fun W => Quick_any n d h1 h2 hd0 hd2 W)
 clear h1 h2 hd0 hd2
 have hB := Below.refl w.heap.size w
 obtain ⟨al, xr, hN⟩ := mk hB #[.bool false, .slice none 0 0, .bool false, .slice none 0 0] 39
 replace hB := hN; clear al hN
 try simp only [World.size_alloc] at xr
 go_enter Tryz.func38, Tryz.ntmps38
 have pr := xr.all4
 go_wp2_with fail
 clear pr
 refine (HQ.out _).mono ?_
 rintro e w1 ⟨⟨v3, rfl, gf⟩, hb⟩
 obtain ⟨b5, a5, k5, c5, b6, a6, k6, c6, rfl⟩ := gf.opened
 replace xr := xr.on hb
 have hz1 := hb.size
 try simp at hz1
 replace hB := hB.trans (hb.mono hB.size); clear hb
 have pr := xr.all4
 go_wp2_with fail
 clear pr; replace gf := gf.setB4 xr rfl (.bool b5) (.slice a5 k5 c5) (.bool b6) (.slice a6 k6 c6) rfl; replace xr := xr.put4 (.bool b5) (.slice a5 k5 c5) (.bool b6) (.slice a6 k6 c6); replace hB := below4 hB w.heap.size (by first | omega | (simp; omega) | simp) (.bool b5) (.slice a5 k5 c5) (.bool b6) (.slice a6 k6 c6)
 generalize ((((w1.setCell ⟨w.heap.size, 0, none⟩ (.bool b5)).setCell ⟨w.heap.size, 1, none⟩ (.slice a5 k5 c5)).setCell ⟨w.heap.size, 2, none⟩ (.bool b6)).setCell ⟨w.heap.size, 3, none⟩ (.slice a6 k6 c6)) = WF at *
 have pr := xr.all4
 exact bodyPost_ret (v := .agg #[.bool b5, .slice a5 k5 c5, .bool b6, .slice a6 k6 c6]) (by simp [results, Tryz.results38, go_sem, pr]) rfl ⟨⟨_, rfl, gf⟩, hB⟩
end Go.Proofs.YtmbcnfogjncdaaaGreat
namespace Go.Proofs.YtmbcnfogjncdaaaGreat
open Go.RowKit Wh
theorem frjoin_sum_ok (p q : Rat) (bx : Bool) (ax : Option Addr) (kx cx : Nat) (dx : Bool) (ex : Option Addr) (lx mx : Nat) (bY : Bool) (ay : Option Addr) (ky cy : Nat) (dy : Bool) (ey : Option Addr) (ly my : Nat) (hp : Fz 256 256 p) (hq : Fz 256 256 q) (hz : Fz 256 256 (p + q)) (w : World) (fx : Fra w (.agg #[.bool bx, .slice ax kx cx, .bool dx, .slice ex lx mx]) p) (fy : Fra w (.agg #[.bool bY, .slice ay ky cy, .bool dy, .slice ey ly my]) q) :
    Calls Tryz.prog 125 #[.func (.func 126) #[] #[], .agg #[.bool bx, .slice ax kx cx, .bool dx, .slice ex lx mx], .agg #[.bool bY, .slice ay ky cy, .bool dy, .slice ey ly my]] w fun e w' => (∃ v, e = .returned (.tuple #[v, .int .i64 0]) ∧ FraF w.heap.size w' v (p + q)) ∧ Below w.heap.size w w' := by
  have HV1 := Lib.hid (fun W (hW : Below w.heap.size w W) => valid_ok (.agg #[.bool bx, .slice ax kx cx, .bool dx, .slice ex lx mx]) p hp W (fx.below hW (Nat.le_refl _)))
  have HV2 := Lib.hid (fun W (hW : Below w.heap.size w W) => valid_ok (.agg #[.bool bY, .slice ay ky cy, .bool dy, .slice ey ly my]) q hq W (fy.below hW (Nat.le_refl _)))
  have HO := Lib.hid (fun W (hW : Below w.heap.size w W) => frsum_any p q bx ax kx cx dx ex lx mx bY ay ky cy dy ey ly my hp hq W (fx.below hW (Nat.le_refl _)) (fy.below hW (Nat.le_refl _)))
  obtain ⟨h1, h1d⟩ := hp
  obtain ⟨h2, h2d⟩ := hq
  have HM := Lib.hid (fun bn an kn cn bd ad kd cd W h g => Make_okk bn an kn cn bd ad kd cd (p.num * q.den + q.num * p.den) ((p.den : Int) * q.den) (p + q) ((Fq.add_eq p q).symm) ((Sz.add (Sz.mul h1 h2d) (Sz.mul h2 h1d)).mono (by decide)) ((Sz.mul h1d h2d).mono (by decide)) (dd_ne p q) hz W h g)
  clear fx fy h1 h1d h2 h2d hz
  have hB := (((Below.refl w.heap.size w).alloc (Nat.le_refl _) (.cells #[.bool bx, .slice ax kx cx, .bool dx, .slice ex lx mx] 39)).alloc (by simp) (.cells #[.bool bY, .slice ay ky cy, .bool dy, .slice ey ly my] 39)).alloc (by simp <;> omega) (.cells #[.bool false, .slice none 0 0, .bool false, .slice none 0 0] 39)
  have xa := ((Bk.new w #[.bool bx, .slice ax kx cx, .bool dx, .slice ex lx mx] 39).alloc (.cells #[.bool bY, .slice ay ky cy, .bool dy, .slice ey ly my] 39)).alloc (.cells #[.bool false, .slice none 0 0, .bool false, .slice none 0 0] 39)
  have xb := (Bk.new (w.alloc (.cells #[.bool bx, .slice ax kx cx, .bool dx, .slice ex lx mx] 39)) #[.bool bY, .slice ay ky cy, .bool dy, .slice ey ly my] 39).alloc (.cells #[.bool false, .slice none 0 0, .bool false, .slice none 0 0] 39)
  have xr := Bk.new ((w.alloc (.cells #[.bool bx, .slice ax kx cx, .bool dx, .slice ex lx mx] 39)).alloc (.cells #[.bool bY, .slice ay ky cy, .bool dy, .slice ey ly my] 39)) #[.bool false, .slice none 0 0, .bool false, .slice none 0 0] 39
  simp only [World.size_alloc] at xb xr
  have hsz : (((w.alloc (.cells #[.bool bx, .slice ax kx cx, .bool dx, .slice ex lx mx] 39)).alloc (.cells #[.bool bY, .slice ay ky cy, .bool dy, .slice ey ly my] 39)).alloc (.cells #[.bool false, .slice none 0 0, .bool false, .slice none 0 0] 39)).heap.size = w.heap.size + 1 + 1 + 1 := by simp only [World.size_alloc]
  obtain ⟨W0, hW0⟩ : ∃ W0, W0 = (((w.alloc (.cells #[.bool bx, .slice ax kx cx, .bool dx, .slice ex lx mx] 39)).alloc (.cells #[.bool bY, .slice ay ky cy, .bool dy, .slice ey ly my] 39)).alloc (.cells #[.bool false, .slice none 0 0, .bool false, .slice none 0 0] 39)) := ⟨_, rfl⟩
  rw [← hW0] at hB xa xb xr hsz
  go_enter Tryz.func125, Tryz.ntmps125
  go_upto_region 1 with fail
  rw [← hW0]
  clear hW0
  have q0 : w.heap.size < W0.heap.size := by omega
  have q1 : w.heap.size + 1 < W0.heap.size := by omega
  have q2 : w.heap.size + 1 + 1 < W0.heap.size := by omega
  have q3 : w.heap.size ≤ W0.heap.size := by omega
  clear hsz
  obtain ⟨a0, a1, a2, a3⟩ := xa.cells4
  obtain ⟨b0, b1, b2, b3⟩ := xb.cells4
  clear xa xb
  go_cut [8, 9] (fun s8 s9 wx => ∃ BX BY : Nat, s8 = .pointer (some ⟨BX, 0, none⟩) ∧ s9 = .pointer (some ⟨BY, 0, none⟩) ∧ Bk wx BX #[.bool bx, .slice ax kx cx, .bool dx, .slice ex lx mx] 101 ∧ Bk wx BY #[.bool bY, .slice ay ky cy, .bool dy, .slice ey ly my] 101 ∧ Below W0.heap.size W0 wx)
  case first =>
    go_region
    all_goals (go_wp2_with fail; go_meet)
    · obtain ⟨t1, t2, t3⟩ := frpair_new W0 #[.bool bx, .slice ax kx cx, .bool dx, .slice ex lx mx] #[.bool bY, .slice ay ky cy, .bool dy, .slice ey ly my] 101
      exact ⟨_, _, rfl, rfl, t1, t2, t3⟩
    · obtain ⟨t1, t2, t3⟩ := frpair_new W0 #[.bool bY, .slice ay ky cy, .bool dy, .slice ey ly my] #[.bool bx, .slice ax kx cx, .bool dx, .slice ex lx mx] 101
      exact ⟨_, _, rfl, rfl, t2, t1, t3⟩
  case rest =>
    obtain ⟨BX, BY, rfl, rfl, xx, xy, hb⟩ := hcut
    replace xr := xr.on hb; replace hB := hB.trans (hb.mono hB.size)
    have hz0 := hb.size
    clear hb a0 a1 a2 a3 b0 b1 b2 b3
    have px := xx.all4
    have py := xy.all4
    have pr := xr.all4
    go_wp2_with fail
    clear px py pr
    refine (HV1.out _ hB).mono ?_
    rintro e w1 ⟨rfl, hb⟩
    replace xx := xx.on hb; replace xy := xy.on hb; replace xr := xr.on hb
    have hz1 := hb.size
    try simp at hz1
    replace hB := hB.trans (hb.mono hB.size); clear hb
    have px := xx.all4
    have py := xy.all4
    have pr := xr.all4
    go_wp2_with fail
    clear px py pr
    refine (HV2.out _ hB).mono ?_
    rintro e w2 ⟨rfl, hb⟩
    replace xx := xx.on hb; replace xy := xy.on hb; replace xr := xr.on hb
    have hz2 := hb.size
    try simp at hz2
    replace hB := hB.trans (hb.mono hB.size); clear hb
    have px := xx.all4
    have py := xy.all4
    have pr := xr.all4
    go_wp2_with fail
    clear px py pr
    refine (HO.out _ hB).mono ?_
    rintro e w3 ⟨⟨vn, vd, rfl, on, od⟩, hb⟩
    obtain ⟨b1, u1, k1, c1, rfl⟩ := on.num.opened
    obtain ⟨b2, u2, k2, c2, rfl⟩ := od.num.opened
    replace xx := xx.on hb; replace xy := xy.on hb; replace xr := xr.on hb
    have hz3 := hb.size
    try simp at hz3
    replace hB := hB.trans (hb.mono hB.size); clear hb
    have hl := Nat.le_trans q3 (Nat.le_trans hz0 (Nat.le_trans hz1 (Nat.le_trans hz2 hz3)))
    go_wp2_with fail
    refine (HM.out _ _ _ _ _ _ _ _ _ on.num od.num).mono ?_
    rintro e w4 ⟨⟨v, rfl, on⟩, hb⟩
    obtain ⟨b5, a5, k5, c5, b6, a6, k6, c6, rfl⟩ := on.fra.opened
    replace xx := xx.on hb; replace xy := xy.on hb; replace xr := xr.on hb
    have hz4 := hb.size
    try simp at hz4
    replace hB := hB.trans (hb.mono hB.size); clear hb
    have px := xx.all4
    have py := xy.all4
    have pr := xr.all4
    go_wp2_with fail
    clear px py pr xx xy; replace xr := xr.put4 (.bool b5) (.slice a5 k5 c5) (.bool b6) (.slice a6 k6 c6); replace on := on.set4 (w.heap.size + 1 + 1) (by first | omega | (simp; omega) | simp) (.bool b5) (.slice a5 k5 c5) (.bool b6) (.slice a6 k6 c6); replace hB := below4 hB (w.heap.size + 1 + 1) (by first | omega | (simp; omega) | simp) (.bool b5) (.slice a5 k5 c5) (.bool b6) (.slice a6 k6 c6); replace on := on.mono hl
    generalize ((((w4.setCell ⟨w.heap.size + 1 + 1, 0, none⟩ (.bool b5)).setCell ⟨w.heap.size + 1 + 1, 1, none⟩ (.slice a5 k5 c5)).setCell ⟨w.heap.size + 1 + 1, 2, none⟩ (.bool b6)).setCell ⟨w.heap.size + 1 + 1, 3, none⟩ (.slice a6 k6 c6)) = WF at *
    have pr := xr.all4
    exact bodyPost_ret (v := .tuple #[.agg #[.bool b5, .slice a5 k5 c5, .bool b6, .slice a6 k6 c6], .int .i64 0]) (by simp [results, Tryz.results125, go_sem, pr]) rfl ⟨⟨_, rfl, on⟩, hB⟩
theorem frAdd_ok (p q : Rat) (bx : Bool) (ax : Option Addr) (kx cx : Nat) (dx : Bool) (ex : Option Addr) (lx mx : Nat) (bY : Bool) (ay : Option Addr) (ky cy : Nat) (dy : Bool) (ey : Option Addr) (ly my : Nat) (hp : Fz 256 256 p) (hq : Fz 256 256 q) (hz : Fz 256 256 (p + q)) (w : World) (fx : Fra w (.agg #[.bool bx, .slice ax kx cx, .bool dx, .slice ex lx mx]) p) (fy : Fra w (.agg #[.bool bY, .slice ay ky cy, .bool dy, .slice ey ly my]) q) :
  Calls Tryz.prog 43 #[.agg #[.bool bx, .slice ax kx cx, .bool dx, .slice ex lx mx], .agg #[.bool bY, .slice ay ky cy, .bool dy, .slice ey ly my]] w fun e w' => (∃ v, e = .returned (.tuple #[v, .int .i64 0]) ∧ FraF w.heap.size w' v (p + q)) ∧ Below w.heap.size w w' := by
 have HJ := Lib.hid (fun W (hW : Below w.heap.size w W) => frjoin_sum_ok p q bx ax kx cx dx ex lx mx bY ay ky cy dy ey ly my hp hq hz W (fx.below hW (Nat.le_refl _)) (fy.below hW (Nat.le_refl _)))
 clear fx fy hp hq hz
 have hB := Below.refl w.heap.size w
 obtain ⟨al, xa, hN⟩ := mk hB #[.bool bx, .slice ax kx cx, .bool dx, .slice ex lx mx] 39
 replace hB := hN; clear al hN
 try simp only [World.size_alloc] at xa
 obtain ⟨al, xb, hN⟩ := mk hB #[.bool bY, .slice ay ky cy, .bool dy, .slice ey ly my] 39
 replace xa := xa.on al; replace hB := hN; clear al hN
 try simp only [World.size_alloc] at xb
 obtain ⟨al, xr, hN⟩ := mk hB #[.bool false, .slice none 0 0, .bool false, .slice none 0 0] 39
 replace xa := xa.on al; replace xb := xb.on al; replace hB := hN; clear al hN
 try simp only [World.size_alloc] at xr
 go_enter Tryz.func43, Tryz.ntmps43
 go_wp2_with fail
 refine (HJ.out _ hB).mono ?_
 rintro e w1 ⟨⟨v, rfl, on⟩, hb⟩
 obtain ⟨b5, a5, k5, c5, b6, a6, k6, c6, rfl⟩ := on.fra.opened
 replace xa := xa.on hb; replace xb := xb.on hb; replace xr := xr.on hb
 have hz1 := hb.size
 try simp at hz1
 replace hB := hB.trans (hb.mono hB.size); clear hb
 have pa := xa.all4
 have pb := xb.all4
 have pr := xr.all4
 go_wp2_with fail
 clear pa pb pr xa xb; replace xr := xr.put4 (.bool b5) (.slice a5 k5 c5) (.bool b6) (.slice a6 k6 c6); replace on := on.set4 (w.heap.size + 1 + 1) (by first | omega | (simp; omega) | simp) (.bool b5) (.slice a5 k5 c5) (.bool b6) (.slice a6 k6 c6); replace hB := below4 hB (w.heap.size + 1 + 1) (by first | omega | (simp; omega) | simp) (.bool b5) (.slice a5 k5 c5) (.bool b6) (.slice a6 k6 c6)
 replace on := on.mono (show w.heap.size ≤ _ by first | omega | (simp; omega) | simp)
 generalize ((((w1.setCell ⟨w.heap.size + 1 + 1, 0, none⟩ (.bool b5)).setCell ⟨w.heap.size + 1 + 1, 1, none⟩ (.slice a5 k5 c5)).setCell ⟨w.heap.size + 1 + 1, 2, none⟩ (.bool b6)).setCell ⟨w.heap.size + 1 + 1, 3, none⟩ (.slice a6 k6 c6)) = WF at *
 have pr := xr.all4
 exact bodyPost_ret (v := .tuple #[.agg #[.bool b5, .slice a5 k5 c5, .bool b6, .slice a6 k6 c6], .int .i64 0]) (by simp [results, Tryz.results43, go_sem, pr]) rfl ⟨⟨_, rfl, on⟩, hB⟩
end Go.Proofs.YtmbcnfogjncdaaaGreat
namespace Go.Proofs.YtmbcnfogjncdaaaGreat
open Go.RowKit Wh
theorem Fz.zero : Fz 1 1 (0 : Rat) := ⟨Sz.small (by decide), Sz.small (by decide)⟩
theorem Fz.one : Fz 1 1 (1 : Rat) := ⟨Sz.small (by decide), Sz.small (by decide)⟩
theorem short2_any (M B : Nat) (b1 : Bool) (a1 : Option Addr) (k1 c1 : Nat) (d1 : Bool) (e1 : Option Addr) (l1 m1 : Nat) (b2 : Bool) (a2 : Option Addr) (k2 c2 : Nat) (d2 : Bool) (e2 : Option Addr) (l2 m2 : Nat) (w : World) (_x10 : w.cell? ⟨B, 0, none⟩ = some (.bool b1)) (x11 : w.cell? ⟨B, 1, none⟩ = some (.slice a1 k1 c1)) (_x12 : w.cell? ⟨B, 2, none⟩ = some (.bool d1)) (x13 : w.cell? ⟨B, 3, none⟩ = some (.slice e1 l1 m1)) (_x20 : w.cell? ⟨B, 4, none⟩ = some (.bool b2)) (x21 : w.cell? ⟨B, 5, none⟩ = some (.slice a2 k2 c2)) (_x22 : w.cell? ⟨B, 6, none⟩ = some (.bool d2)) (x23 : w.cell? ⟨B, 7, none⟩ = some (.slice e2 l2 m2)) :
    Calls Tryz.prog 22 #[.int .i64 (M : Int), .slice (some ⟨B, 0, none⟩) 2 2] w fun e w' => e = .returned (.bool ((decide (k1 ≤ M) && decide (l1 ≤ M)) && (decide (k2 ≤ M) && decide (l2 ≤ M)))) ∧ Below w.heap.size w w' := by
  have hB := Below.refl w.heap.size w
  go_enter Tryz.func22, Tryz.ntmps22
  go_wp2_with fail
  refine wp_loop_rounds 3 ?_
  rw [rounds_succ]
  rcases Nat.lt_or_ge M k1 with t1 | t1
  · have t1' : (M : Int) < (k1 : Int) := by omega
    have T := Lib.hid (show decide (k1 ≤ M) = false from decide_eq_false (by omega))
    go_wp2
    go_ret
    exact ⟨by simp [T.out], hB⟩
  · have t1' : ¬ (M : Int) < (k1 : Int) := by omega
    rcases Nat.lt_or_ge M l1 with u1 | u1
    · have u1' : (M : Int) < (l1 : Int) := by omega
      have T := Lib.hid (show decide (l1 ≤ M) = false from decide_eq_false (by omega))
      go_wp2
      go_ret
      exact ⟨by simp [T.out], hB⟩
    · have u1' : ¬ (M : Int) < (l1 : Int) := by omega
      go_wp2_with fail
      rw [rounds_succ]
      rcases Nat.lt_or_ge M k2 with t2 | t2
      · have t2' : (M : Int) < (k2 : Int) := by omega
        have T := Lib.hid (show decide (k2 ≤ M) = false from decide_eq_false (by omega))
        go_wp2
        go_ret
        exact ⟨by simp [T.out], hB⟩
      · have t2' : ¬ (M : Int) < (k2 : Int) := by omega
        rcases Nat.lt_or_ge M l2 with u2 | u2
        · have u2' : (M : Int) < (l2 : Int) := by omega
          have T := Lib.hid (show decide (l2 ≤ M) = false from decide_eq_false (by omega))
          go_wp2
          go_ret
          exact ⟨by simp [T.out], hB⟩
        · have u2' : ¬ (M : Int) < (l2 : Int) := by omega
          go_wp2_with fail
          rw [rounds_succ]
          go_wp2
          go_ret
          exact ⟨by simp [t1, u1, t2, u2], hB⟩
end Go.Proofs.YtmbcnfogjncdaaaGreat
namespace Go.Proofs.YtmbcnfogjncdaaaGreat
open Go.RowKit Wh
theorem is_ok (b : Bool) (a : Option Addr) (k c : Nat) (b' : Bool) (a' : Option Addr) (k' c' : Nat) (q : Rat) (n d : Int) (h1 : -9223372036854775808 ≤ n) (h2 : n ≤ 9223372036854775807) (hd0 : d ≠ 0) (hd2 : d.natAbs < 65536) (w : World) (h : Fra w (.agg #[.bool b, .slice a k c, .bool b', .slice a' k' c']) q) :
  Calls Tryz.prog 80 #[.agg #[.bool b, .slice a k c, .bool b', .slice a' k' c'], .int .i64 0, .int .i64 n, .int .i64 d] w fun e w' => e = .returned (.bool (decide (q = Rat.divInt n d))) ∧ Below w.heap.size w w' := by
 have HQ := Lib.hid (fun W => quick_any n d h1 h2 hd0 hd2 W)
 have HS := Lib.hid (fun vb W (hW : Below w.heap.size w W) (g : Fra W vb (Rat.divInt n d)) => ref2Same_fra (.agg #[.bool b, .slice a k c, .bool b', .slice a' k' c']) vb q (Rat.divInt n d) W (h.below hW (Nat.le_refl _)) g)
 clear h h1 h2 hd0 hd2
 have hB := Below.refl w.heap.size w
 obtain ⟨al, xa, hN⟩ := mk hB #[.bool b, .slice a k c, .bool b', .slice a' k' c'] 39
 replace hB := hN; clear al hN
 try simp only [World.size_alloc] at xa
 go_enter Tryz.func80, Tryz.ntmps80
 go_upto_region 1 with fail
 obtain ⟨wz, hwz⟩ : ∃ W, W = (w.alloc (.cells #[.bool b, .slice a k c, .bool b', .slice a' k' c'] 39)) := ⟨_, rfl⟩
 rw [← hwz] at hB xa ⊢
 clear hwz
 have qa := xa.lt
 obtain ⟨ga0, ga1, ga2, ga3⟩ := xa.cells4
 refine wp_region_noPanic ?_
 refine wp_region_held_drew (S := (fun w' => w'.cell? ⟨w.heap.size, 0, none⟩ = some (.bool b) ∧ w'.cell? ⟨w.heap.size, 1, none⟩ = some (.slice a k c) ∧ w'.cell? ⟨w.heap.size, 2, none⟩ = some (.bool b') ∧ w'.cell? ⟨w.heap.size, 3, none⟩ = some (.slice a' k' c'))) (by kernel_rfl) ⟨ga0, ga1, ga2, ga3⟩ (fun hR0 => ?_)
 change wpAnyH _ _ _ _ _ 10 #[false, false, false, false, false, false, false, false, false, false] _ _
 clear ga0 ga1 ga2 ga3
 refine tz 0 ?_
 (try simp only [Act.put, sa, List.set])
 refine tz 1 ?_
 (try simp only [Act.put, sa, List.set])
 refine tz 2 ?_
 (try simp only [Act.put, sa, List.set])
 refine tz 3 ?_
 (try simp only [Act.put, sa, List.set])
 refine tz 4 ?_
 (try simp only [Act.put, sa, List.set])
 refine tz 5 ?_
 (try simp only [Act.put, sa, List.set])
 refine rz 6 fun K hK => ?_
 go_simp
 go_at_call 38; have hBd := hB.drew; refine (HQ.out _).mono ?_; rintro e w1 ⟨⟨v, rfl, gf⟩, hb⟩; replace hb := (Below.refl wz.heap.size wz).drew.trans hb; obtain ⟨b5, a5, k5, c5, b6, a6, k6, c6, rfl⟩ := gf.opened; replace xa := xa.on hb; replace hB := hB.trans (hb.mono hB.size); have hz1 := hb.size
 (try go_wp2_with fail)
 refine hK.out _ _ (keep4 hb qa hR0) (fun hR1 => ?_)
 clear hK K hR0
 (try simp only [Act.put, sa, List.set])
 replace qa := Nat.lt_of_lt_of_le qa hz1; clear hb hBd
 refine rz 7 fun K hK => ?_
 go_simp
 go_at_call 29; have hBd := hB; refine (HS.out _ _ hBd gf).mono ?_; rintro e w2 ⟨rfl, hb⟩; replace xa := xa.on hb; replace hB := hB.trans (hb.mono hB.size); have hz2 := hb.size
 (try go_wp2_with fail)
 refine hK.out _ _ (keep4 hb qa hR1) (fun hR2 => ?_)
 clear hK K hR1
 (try simp only [Act.put, sa, List.set])
 replace qa := Nat.lt_of_lt_of_le qa hz2; clear hb hBd
 refine tz 8 ?_
 (try simp only [Act.put, sa, List.set])
 refine tz 9 ?_
 (try simp only [Act.put, sa, List.set])
 refine wpAnyH_done (by kernel_rfl) ?_ _
 refine NoPanic.normal ?_
 clear hR2 qa xa
 have HB := Lib.hid hB
 clear hB
 go_wp2
 go_ret
 exact ⟨rfl, HB.out⟩
end Go.Proofs.YtmbcnfogjncdaaaGreat
