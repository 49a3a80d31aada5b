/- A part of the proofs about fractions. -/
import Derived.Test.YtmbcnfogjncdaaaGreatQFl1
import Derived.Test.YtmbcnfogjncdaaaGreatQFl13
import Derived.Test.YtmbcnfogjncdaaaGreatQFl22
import Derived.Test.YtmbcnfogjncdaaaGreatQFl25
set_option maxRecDepth 100000
set_option maxHeartbeats 2000000
namespace Go.Proofs.YtmbcnfogjncdaaaGreat
open Go.RowKit Wh
theorem dig_ne (n : Nat) : decide (dig n ≠ []) = decide (n ≠ 0) := by
 rw [decide_eq_decide]; exact not_congr (dig_nil_iff n)
theorem num_make {W : World} {m : Bool} {s : Value} {A : Nat} {z : Int} (hm : m = decide (z < 0)) (hA : A = z.natAbs) (h : Lim W s (dig A)) : Num W (.agg #[.bool m, s]) z := by
 subst hA; subst hm; exact ⟨s, rfl, h⟩
theorem rmul_sign (a b : Int) : ((decide (a < 0) != decide (b < 0)) && decide (dig (a.natAbs * b.natAbs) ≠ [])) = decide (a * b < 0) := by
  rw [dig_ne]
  rcases Int.lt_trichotomy a 0 with h | h | h <;> rcases Int.lt_trichotomy b 0 with g | g | g
  · have := Int.mul_pos_of_neg_of_neg h g; rw [decide_eq_true h, decide_eq_true g, decide_eq_false (by omega : ¬ a * b < 0)]; rfl
  · subst g; simp
  · have := Int.mul_neg_of_neg_of_pos h g
    rw [decide_eq_true h, decide_eq_false (by omega : ¬ b < 0), decide_eq_true this, decide_eq_true (Nat.mul_ne_zero (by omega) (by omega))]; rfl
  · subst h; simp
  · subst h; simp
  · subst h; simp
  · have := Int.mul_neg_of_pos_of_neg h g
    rw [decide_eq_true g, decide_eq_false (by omega : ¬ a < 0), decide_eq_true this, decide_eq_true (Nat.mul_ne_zero (by omega) (by omega))]; rfl
  · subst g; simp
  · have := Int.mul_pos h g; rw [decide_eq_false (by omega : ¬ a < 0), decide_eq_false (by omega : ¬ b < 0), decide_eq_false (by omega : ¬ a * b < 0)]; rfl
theorem sum_same {a b : Int} (h : (decide (a < 0) == decide (b < 0)) = true) : (decide (a < 0) && decide (dig (a.natAbs + b.natAbs) ≠ [])) = decide (a + b < 0) ∧ a.natAbs + b.natAbs = (a + b).natAbs := by
 rw [dig_ne]
 rw [beq_iff_eq, decide_eq_decide] at h
 refine ⟨?_, by omega⟩
 rw [Bool.eq_iff_iff]; simp only [Bool.and_eq_true, decide_eq_true_eq]; omega
theorem sum_less {a b : Int} (h : (decide (a < 0) == decide (b < 0)) = false) (hl : a.natAbs < b.natAbs) : (decide (b < 0) && decide (dig (b.natAbs - a.natAbs) ≠ [])) = decide (a + b < 0) ∧ b.natAbs - a.natAbs = (a + b).natAbs := by
 rw [dig_ne]
 rw [beq_eq_false_iff_ne, Ne, decide_eq_decide] at h
 refine ⟨?_, by omega⟩
 rw [Bool.eq_iff_iff]; simp only [Bool.and_eq_true, decide_eq_true_eq]; omega
theorem sum_more {a b : Int} (h : (decide (a < 0) == decide (b < 0)) = false) (hl : ¬ a.natAbs < b.natAbs) : (decide (a < 0) && decide (dig (a.natAbs - b.natAbs) ≠ [])) = decide (a + b < 0) ∧ a.natAbs - b.natAbs = (a + b).natAbs := by
 rw [dig_ne]
 rw [beq_eq_false_iff_ne, Ne, decide_eq_decide] at h
 refine ⟨?_, by omega⟩
 rw [Bool.eq_iff_iff]; simp only [Bool.and_eq_true, decide_eq_true_eq]; omega
theorem refProduct_raw (ba : Bool) (aa : Option Addr) (ka ca : Nat) (bb : Bool) (ab : Option Addr) (kb cb : Nat) (a b : Int) (sa : (dig a.natAbs).length ≤ 8192) (sb : (dig b.natAbs).length ≤ 8192) (w : World) (na : Num w (.agg #[.bool ba, .slice aa ka ca]) a) (nb : Num w (.agg #[.bool bb, .slice ab kb cb]) b) :
  Calls Tryz.prog 118 #[.agg #[.bool ba, .slice aa ka ca], .agg #[.bool bb, .slice ab kb cb]] w fun e w' => (∃ v, e = .returned v ∧ Num w' v (a * b)) ∧ Below w.heap.size w w' := by
 obtain ⟨ea, la⟩ := lim_of_num na
 obtain ⟨eb, lb⟩ := lim_of_num nb
 have HT := Lib.hid (fun W (hW : Below w.heap.size w W) => refTimes_any (.slice aa ka ca) (.slice ab kb cb) a.natAbs b.natAbs sa sb W (la.below hW (Nat.le_refl _)) (lb.below hW (Nat.le_refl _)))
 have E := Lib.hid (And.intro ea eb)
 clear ea eb la lb na nb sa sb
 have hB := Below.refl w.heap.size w
 obtain ⟨al, xa, hN⟩ := mk hB #[.bool ba, .slice aa ka ca] 24
 replace hB := hN; clear al hN
 try simp only [World.size_alloc] at xa
 obtain ⟨al, xb, hN⟩ := mk hB #[.bool bb, .slice ab kb cb] 24
 replace xa := xa.on al; replace hB := hN; clear al hN
 try simp only [World.size_alloc] at xb
 obtain ⟨al, xr, hN⟩ := mk hB #[.bool false, .slice none 0 0] 24
 replace xa := xa.on al; replace xb := xb.on al; replace hB := hN; clear al hN
 try simp only [World.size_alloc] at xr
 go_enter Tryz.func118, Tryz.ntmps118
 have pa := xa.all2
 have pb := xb.all2
 have pr := xr.all2
 have lta := xa.lt
 have ltb := xb.lt
 have ltr := xr.lt
 go_wp2_with fail
 clear lta ltb ltr pa pb pr
 obtain ⟨wa, hwa⟩ : ∃ W, W = (((w.alloc (.cells #[.bool ba, .slice aa ka ca] 24)).alloc (.cells #[.bool bb, .slice ab kb cb] 24)).alloc (.cells #[.bool false, .slice none 0 0] 24)) := ⟨_, rfl⟩
 rw [← hwa] at hB xa xb xr ⊢
 clear hwa
 have qa := xa.lt
 have qb := xb.lt
 obtain ⟨ga0, ga1⟩ := xa.cells2
 obtain ⟨gb0, gb1⟩ := xb.cells2
 refine wp_region_noPanic ?_
 refine wp_region_held_drew (S := (fun w' => w'.cell? ⟨w.heap.size, 0, none⟩ = some (.bool ba) ∧ w'.cell? ⟨w.heap.size, 1, none⟩ = some (.slice aa ka ca) ∧ w'.cell? ⟨w.heap.size + 1, 0, none⟩ = some (.bool bb) ∧ w'.cell? ⟨w.heap.size + 1, 1, none⟩ = some (.slice ab kb cb))) (by kernel_rfl) ⟨ga0, ga1, gb0, gb1⟩ (fun hR0 => ?_)
 change wpAnyH _ _ _ _ _ 12 #[false, false, false, false, false, false, false, false, false, false, false, false] _ _
 clear ga0 ga1 gb0 gb1
 refine tz 0 ?_
 (try simp only [Act.put, List.setIfInBounds_toArray, List.set])
 refine tz 1 ?_
 (try simp only [Act.put, List.setIfInBounds_toArray, List.set])
 refine tz 2 ?_
 (try simp only [Act.put, List.setIfInBounds_toArray, List.set])
 refine tz 3 ?_
 (try simp only [Act.put, List.setIfInBounds_toArray, List.set])
 refine tz 4 ?_
 (try simp only [Act.put, List.setIfInBounds_toArray, List.set])
 refine tz 5 ?_
 (try simp only [Act.put, List.setIfInBounds_toArray, List.set])
 refine tz 6 ?_
 (try simp only [Act.put, List.setIfInBounds_toArray, List.set])
 refine tz 7 ?_
 (try simp only [Act.put, List.setIfInBounds_toArray, List.set])
 refine tz 8 ?_
 (try simp only [Act.put, List.setIfInBounds_toArray, List.set])
 refine rz 9 fun K hK => ?_
 go_simp
 go_at_call 61; have hBd := hB.drew; refine (HT.out _ hBd).mono ?_; rintro e w1 ⟨⟨vt, rfl, gt⟩, hb⟩; replace hb := (Below.refl wa.heap.size wa).drew.trans hb; obtain ⟨at1, ct, rfl⟩ := lf_slice0 gt; replace gt := gt.1; replace xa := xa.on hb; replace xb := xb.on hb; replace xr := xr.on hb; replace hB := hB.trans (hb.mono hB.size); have hz1 := hb.size
 (try go_wp2_with fail)
 refine hK.out _ _ (⟨(hb.cell (p := ⟨w.heap.size, 0, none⟩) qa).trans hR0.1, (hb.cell (p := ⟨w.heap.size, 1, none⟩) qa).trans hR0.2.1, (hb.cell (p := ⟨w.heap.size + 1, 0, none⟩) qb).trans hR0.2.2.1, (hb.cell (p := ⟨w.heap.size + 1, 1, none⟩) qb).trans hR0.2.2.2⟩) (fun hR1 => ?_)
 clear hK K hR0
 (try simp only [List.setIfInBounds_toArray, List.set])
 replace qa := Nat.lt_of_lt_of_le qa hz1; replace qb := Nat.lt_of_lt_of_le qb hz1; clear hb hBd
 refine rz 10 fun K hK => ?_
 go_simp
 go_at_call 64; have hBd := hB; refine (refMake_ex _ _ _ _ gt).mono ?_; rintro e w2 ⟨⟨m, rfl, hm⟩, hb⟩; replace hm := Lib.hid hm; replace xa := xa.on hb; replace xb := xb.on hb; replace xr := xr.on hb; replace gt := gt.on hb; replace hB := hB.trans (hb.mono hB.size); have hz2 := hb.size
 (try go_wp2_with fail)
 refine hK.out _ _ (⟨(hb.cell (p := ⟨w.heap.size, 0, none⟩) qa).trans hR1.1, (hb.cell (p := ⟨w.heap.size, 1, none⟩) qa).trans hR1.2.1, (hb.cell (p := ⟨w.heap.size + 1, 0, none⟩) qb).trans hR1.2.2.1, (hb.cell (p := ⟨w.heap.size + 1, 1, none⟩) qb).trans hR1.2.2.2⟩) (fun hR2 => ?_)
 clear hK K hR1
 (try simp only [List.setIfInBounds_toArray, List.set])
 replace qa := Nat.lt_of_lt_of_le qa hz2; replace qb := Nat.lt_of_lt_of_le qb hz2; clear hb hBd
 have pr := xr.all2
 refine rz 11 fun K hK => ?_
 go_simp
 refine hK.out _ _ (⟨cell_store hR2.1 (by omega), cell_store hR2.2.1 (by omega), cell_store hR2.2.2.1 (by omega), cell_store hR2.2.2.2 (by omega)⟩) (fun hR3 => ?_)
 clear hK K hR2
 (try simp only [List.setIfInBounds_toArray, List.set])
 clear pr; replace gt := gt.setB xr rfl 0 (.bool m); replace xa := xa.put_other (w.heap.size + 1 + 1) 0 (.bool m) (by omega); replace xb := xb.put_other (w.heap.size + 1 + 1) 0 (.bool m) (by omega)
 replace xr : Bk _ (w.heap.size + 1 + 1) #[.bool m, .slice none 0 0] _ := xr.put 0 (.bool m)
 replace hB := hB.setCell (p := ⟨w.heap.size + 1 + 1, 0, none⟩) (by first | omega | (simp; omega) | simp) (.bool m); replace gt := gt.setB xr rfl 1 (.slice at1 (dig (a.natAbs * b.natAbs)).length ct); replace xa := xa.put_other (w.heap.size + 1 + 1) 1 (.slice at1 (dig (a.natAbs * b.natAbs)).length ct) (by omega); replace xb := xb.put_other (w.heap.size + 1 + 1) 1 (.slice at1 (dig (a.natAbs * b.natAbs)).length ct) (by omega)
 replace xr : Bk _ (w.heap.size + 1 + 1) #[.bool m, .slice at1 (dig (a.natAbs * b.natAbs)).length ct] _ := xr.put 1 (.slice at1 (dig (a.natAbs * b.natAbs)).length ct)
 replace hB := hB.setCell (p := ⟨w.heap.size + 1 + 1, 1, none⟩) (by first | omega | (simp; omega) | simp) (.slice at1 (dig (a.natAbs * b.natAbs)).length ct)
 refine wpAnyH_done (by kernel_rfl) ?_ _
 refine NoPanic.normal ?_
 clear hR3 qa qb xa xb
 have pr := xr.all2
 have ltr := xr.lt
 go_wp2
 clear ltr pr
 generalize ((w2.setCell ⟨w.heap.size + 1 + 1, 0, none⟩ (.bool m)).setCell ⟨w.heap.size + 1 + 1, 1, none⟩ (.slice at1 (dig (a.natAbs * b.natAbs)).length ct)) = WF at *
 have pr := xr.all2
 have ltr := xr.lt
 exact bodyPost_ret (v := .agg #[.bool m, .slice at1 (dig (a.natAbs * b.natAbs)).length ct]) (by simp [results, Tryz.results118, go_sem, pr]) rfl ⟨⟨_, rfl, num_make (by rw [hm.out, E.out.1, E.out.2]; exact rmul_sign a b) (Int.natAbs_mul a b).symm gt⟩, hB⟩
theorem refSum_same (ba : Bool) (aa : Option Addr) (ka ca : Nat) (bb : Bool) (ab : Option Addr) (kb cb : Nat) (a b : Int) (sa : (dig a.natAbs).length ≤ 16384) (sb : (dig b.natAbs).length ≤ 16384) (hs : (ba == bb) = true) (w : World) (na : Num w (.agg #[.bool ba, .slice aa ka ca]) a) (nb : Num w (.agg #[.bool bb, .slice ab kb cb]) b) :
  Calls Tryz.prog 124 #[.agg #[.bool ba, .slice aa ka ca], .agg #[.bool bb, .slice ab kb cb]] w fun e w' => (∃ v, e = .returned v ∧ Num w' v (a + b)) ∧ Below w.heap.size w w' := by
 obtain ⟨ea, la⟩ := lim_of_num na
 obtain ⟨eb, lb⟩ := lim_of_num nb
 have HT := Lib.hid (fun W (hW : Below w.heap.size w W) => refPlus_any (.slice aa ka ca) (.slice ab kb cb) a.natAbs b.natAbs 16384 sa sb (Nat.le_refl _) W (la.below hW (Nat.le_refl _)) (lb.below hW (Nat.le_refl _)))
 have hq := hs
 rw [ea, eb] at hq
 have HS := Lib.hid (sum_same hq)
 clear hq
 have E := Lib.hid (And.intro ea eb)
 clear ea eb la lb na nb sa sb
 have hB := Below.refl w.heap.size w
 obtain ⟨al, xa, hN⟩ := mk hB #[.bool ba, .slice aa ka ca] 24
 replace hB := hN; clear al hN
 try simp only [World.size_alloc] at xa
 obtain ⟨al, xb, hN⟩ := mk hB #[.bool bb, .slice ab kb cb] 24
 replace xa := xa.on al; replace hB := hN; clear al hN
 try simp only [World.size_alloc] at xb
 obtain ⟨al, xr, hN⟩ := mk hB #[.bool false, .slice none 0 0] 24
 replace xa := xa.on al; replace xb := xb.on al; replace hB := hN; clear al hN
 try simp only [World.size_alloc] at xr
 go_enter Tryz.func124, Tryz.ntmps124
 have pa := xa.all2
 have pb := xb.all2
 have pr := xr.all2
 have lta := xa.lt
 have ltb := xb.lt
 have ltr := xr.lt
 go_wp2_with fail
 clear lta ltb ltr pa pb pr
 obtain ⟨wa, hwa⟩ : ∃ W, W = (((w.alloc (.cells #[.bool ba, .slice aa ka ca] 24)).alloc (.cells #[.bool bb, .slice ab kb cb] 24)).alloc (.cells #[.bool false, .slice none 0 0] 24)) := ⟨_, rfl⟩
 rw [← hwa] at hB xa xb xr ⊢
 clear hwa
 have qa := xa.lt
 have qb := xb.lt
 obtain ⟨ga0, ga1⟩ := xa.cells2
 obtain ⟨gb0, gb1⟩ := xb.cells2
 refine wp_region_noPanic ?_
 refine wp_region_held_drew (S := (fun w' => w'.cell? ⟨w.heap.size, 0, none⟩ = some (.bool ba) ∧ w'.cell? ⟨w.heap.size, 1, none⟩ = some (.slice aa ka ca) ∧ w'.cell? ⟨w.heap.size + 1, 0, none⟩ = some (.bool bb) ∧ w'.cell? ⟨w.heap.size + 1, 1, none⟩ = some (.slice ab kb cb))) (by kernel_rfl) ⟨ga0, ga1, gb0, gb1⟩ (fun hR0 => ?_)
 change wpAnyH _ _ _ _ _ 9 #[false, false, false, false, false, false, false, false, false] _ _
 clear ga0 ga1 gb0 gb1
 refine tz 0 ?_
 (try simp only [Act.put, List.setIfInBounds_toArray, List.set])
 refine tz 1 ?_
 (try simp only [Act.put, List.setIfInBounds_toArray, List.set])
 refine tz 2 ?_
 (try simp only [Act.put, List.setIfInBounds_toArray, List.set])
 refine tz 3 ?_
 (try simp only [Act.put, List.setIfInBounds_toArray, List.set])
 refine tz 4 ?_
 (try simp only [Act.put, List.setIfInBounds_toArray, List.set])
 refine tz 5 ?_
 (try simp only [Act.put, List.setIfInBounds_toArray, List.set])
 refine rz 6 fun K hK => ?_
 go_simp
 go_at_call 60; have hBd := hB.drew; refine (HT.out _ hBd).mono ?_; rintro e w1 ⟨⟨vt, rfl, gt⟩, hb⟩; replace hb := (Below.refl wa.heap.size wa).drew.trans hb; obtain ⟨at1, ct, rfl⟩ := lf_slice0 gt; replace gt := gt.1; replace xa := xa.on hb; replace xb := xb.on hb; replace xr := xr.on hb; replace hB := hB.trans (hb.mono hB.size); have hz1 := hb.size
 (try go_wp2_with fail)
 refine hK.out _ _ (⟨(hb.cell (p := ⟨w.heap.size, 0, none⟩) qa).trans hR0.1, (hb.cell (p := ⟨w.heap.size, 1, none⟩) qa).trans hR0.2.1, (hb.cell (p := ⟨w.heap.size + 1, 0, none⟩) qb).trans hR0.2.2.1, (hb.cell (p := ⟨w.heap.size + 1, 1, none⟩) qb).trans hR0.2.2.2⟩) (fun hR1 => ?_)
 clear hK K hR0
 (try simp only [List.setIfInBounds_toArray, List.set])
 replace qa := Nat.lt_of_lt_of_le qa hz1; replace qb := Nat.lt_of_lt_of_le qb hz1; clear hb hBd
 refine rz 7 fun K hK => ?_
 go_simp
 go_at_call 64; have hBd := hB; refine (refMake_ex _ _ _ _ gt).mono ?_; rintro e w2 ⟨⟨m, rfl, hm⟩, hb⟩; replace hm := Lib.hid hm; replace xa := xa.on hb; replace xb := xb.on hb; replace xr := xr.on hb; replace gt := gt.on hb; replace hB := hB.trans (hb.mono hB.size); have hz2 := hb.size
 (try go_wp2_with fail)
 refine hK.out _ _ (⟨(hb.cell (p := ⟨w.heap.size, 0, none⟩) qa).trans hR1.1, (hb.cell (p := ⟨w.heap.size, 1, none⟩) qa).trans hR1.2.1, (hb.cell (p := ⟨w.heap.size + 1, 0, none⟩) qb).trans hR1.2.2.1, (hb.cell (p := ⟨w.heap.size + 1, 1, none⟩) qb).trans hR1.2.2.2⟩) (fun hR2 => ?_)
 clear hK K hR1
 (try simp only [List.setIfInBounds_toArray, List.set])
 replace qa := Nat.lt_of_lt_of_le qa hz2; replace qb := Nat.lt_of_lt_of_le qb hz2; clear hb hBd
 have pr := xr.all2
 refine rz 8 fun K hK => ?_
 go_simp
 refine hK.out _ _ (⟨cell_store hR2.1 (by omega), cell_store hR2.2.1 (by omega), cell_store hR2.2.2.1 (by omega), cell_store hR2.2.2.2 (by omega)⟩) (fun hR3 => ?_)
 clear hK K hR2
 (try simp only [List.setIfInBounds_toArray, List.set])
 clear pr; replace gt := gt.setB xr rfl 0 (.bool m); replace xa := xa.put_other (w.heap.size + 1 + 1) 0 (.bool m) (by omega); replace xb := xb.put_other (w.heap.size + 1 + 1) 0 (.bool m) (by omega)
 replace xr : Bk _ (w.heap.size + 1 + 1) #[.bool m, .slice none 0 0] _ := xr.put 0 (.bool m)
 replace hB := hB.setCell (p := ⟨w.heap.size + 1 + 1, 0, none⟩) (by first | omega | (simp; omega) | simp) (.bool m); replace gt := gt.setB xr rfl 1 (.slice at1 (dig (a.natAbs + b.natAbs)).length ct); replace xa := xa.put_other (w.heap.size + 1 + 1) 1 (.slice at1 (dig (a.natAbs + b.natAbs)).length ct) (by omega); replace xb := xb.put_other (w.heap.size + 1 + 1) 1 (.slice at1 (dig (a.natAbs + b.natAbs)).length ct) (by omega)
 replace xr : Bk _ (w.heap.size + 1 + 1) #[.bool m, .slice at1 (dig (a.natAbs + b.natAbs)).length ct] _ := xr.put 1 (.slice at1 (dig (a.natAbs + b.natAbs)).length ct)
 replace hB := hB.setCell (p := ⟨w.heap.size + 1 + 1, 1, none⟩) (by first | omega | (simp; omega) | simp) (.slice at1 (dig (a.natAbs + b.natAbs)).length ct)
 refine wpAnyH_done (by kernel_rfl) ?_ _
 refine NoPanic.normal ?_
 clear hR3 qa qb xa xb
 have pr := xr.all2
 have ltr := xr.lt
 go_wp2
 clear ltr pr
 generalize ((w2.setCell ⟨w.heap.size + 1 + 1, 0, none⟩ (.bool m)).setCell ⟨w.heap.size + 1 + 1, 1, none⟩ (.slice at1 (dig (a.natAbs + b.natAbs)).length ct)) = WF at *
 have pr := xr.all2
 have ltr := xr.lt
 exact bodyPost_ret (v := .agg #[.bool m, .slice at1 (dig (a.natAbs + b.natAbs)).length ct]) (by simp [results, Tryz.results124, go_sem, pr]) rfl ⟨⟨_, rfl, num_make (by rw [hm.out, E.out.1]; exact HS.out.1) HS.out.2 gt⟩, hB⟩
theorem refSum_less (ba : Bool) (aa : Option Addr) (ka ca : Nat) (bb : Bool) (ab : Option Addr) (kb cb : Nat) (a b : Int) (sb : (dig b.natAbs).length ≤ 16384) (hs : (ba == bb) = false) (hl : a.natAbs < b.natAbs) (w : World) (na : Num w (.agg #[.bool ba, .slice aa ka ca]) a) (nb : Num w (.agg #[.bool bb, .slice ab kb cb]) b) :
  Calls Tryz.prog 124 #[.agg #[.bool ba, .slice aa ka ca], .agg #[.bool bb, .slice ab kb cb]] w fun e w' => (∃ v, e = .returned v ∧ Num w' v (a + b)) ∧ Below w.heap.size w w' := by
 obtain ⟨ea, la⟩ := lim_of_num na
 obtain ⟨eb, lb⟩ := lim_of_num nb
 have hL := fun W (hW : Below w.heap.size w W) => refLess_any (.slice aa ka ca) (.slice ab kb cb) a.natAbs b.natAbs W (la.below hW (Nat.le_refl _)) (lb.below hW (Nat.le_refl _))
 rw [decide_eq_true hl] at hL
 have HL := Lib.hid hL
 clear hL
 have HT := Lib.hid (fun W (hW : Below w.heap.size w W) => refMinus_any (.slice ab kb cb) (.slice aa ka ca) b.natAbs a.natAbs (Nat.le_of_lt hl) sb W (lb.below hW (Nat.le_refl _)) (la.below hW (Nat.le_refl _)))
 have hq := hs
 rw [ea, eb] at hq
 have HS := Lib.hid (sum_less hq hl)
 clear hq
 have E := Lib.hid (And.intro ea eb)
 clear ea eb la lb na nb sb hl
 have hB := Below.refl w.heap.size w
 obtain ⟨al, xa, hN⟩ := mk hB #[.bool ba, .slice aa ka ca] 24
 replace hB := hN; clear al hN
 try simp only [World.size_alloc] at xa
 obtain ⟨al, xb, hN⟩ := mk hB #[.bool bb, .slice ab kb cb] 24
 replace xa := xa.on al; replace hB := hN; clear al hN
 try simp only [World.size_alloc] at xb
 obtain ⟨al, xr, hN⟩ := mk hB #[.bool false, .slice none 0 0] 24
 replace xa := xa.on al; replace xb := xb.on al; replace hB := hN; clear al hN
 try simp only [World.size_alloc] at xr
 go_enter Tryz.func124, Tryz.ntmps124
 have pa := xa.all2
 have pb := xb.all2
 have pr := xr.all2
 have lta := xa.lt
 have ltb := xb.lt
 have ltr := xr.lt
 go_wp2_with fail
 clear lta ltb ltr pa pb pr
 refine (HL.out _ hB).mono ?_
 rintro e w1 ⟨rfl, hb⟩
 replace xa := xa.on hb; replace xb := xb.on hb; replace xr := xr.on hb
 have hz1 := hb.size
 try simp at hz1
 replace hB := hB.trans (hb.mono hB.size); clear hb
 have pa := xa.all2
 have pb := xb.all2
 have pr := xr.all2
 have lta := xa.lt
 have ltb := xb.lt
 have ltr := xr.lt
 go_wp2_with fail
 clear lta ltb ltr pa pb pr
 obtain ⟨wa, hwa⟩ : ∃ W, W = w1 := ⟨_, rfl⟩
 rw [← hwa] at hB xa xb xr ⊢
 clear hwa
 have qa := xa.lt
 have qb := xb.lt
 obtain ⟨ga0, ga1⟩ := xa.cells2
 obtain ⟨gb0, gb1⟩ := xb.cells2
 refine wp_region_noPanic ?_
 refine wp_region_held_drew (S := (fun w' => w'.cell? ⟨w.heap.size, 0, none⟩ = some (.bool ba) ∧ w'.cell? ⟨w.heap.size, 1, none⟩ = some (.slice aa ka ca) ∧ w'.cell? ⟨w.heap.size + 1, 0, none⟩ = some (.bool bb) ∧ w'.cell? ⟨w.heap.size + 1, 1, none⟩ = some (.slice ab kb cb))) (by kernel_rfl) ⟨ga0, ga1, gb0, gb1⟩ (fun hR0 => ?_)
 change wpAnyH _ _ _ _ _ 9 #[false, false, false, false, false, false, false, false, false] _ _
 clear ga0 ga1 gb0 gb1
 refine tz 0 ?_
 (try simp only [Act.put, List.setIfInBounds_toArray, List.set])
 refine tz 1 ?_
 (try simp only [Act.put, List.setIfInBounds_toArray, List.set])
 refine tz 2 ?_
 (try simp only [Act.put, List.setIfInBounds_toArray, List.set])
 refine tz 3 ?_
 (try simp only [Act.put, List.setIfInBounds_toArray, List.set])
 refine tz 4 ?_
 (try simp only [Act.put, List.setIfInBounds_toArray, List.set])
 refine tz 5 ?_
 (try simp only [Act.put, List.setIfInBounds_toArray, List.set])
 refine rz 6 fun K hK => ?_
 go_simp
 go_at_call 163; have hBd := hB.drew; refine (HT.out _ hBd).mono ?_; rintro e w2 ⟨⟨vt, rfl, gt⟩, hb⟩; replace hb := (Below.refl wa.heap.size wa).drew.trans hb; obtain ⟨at1, ct, rfl⟩ := lf_slice0 gt; replace gt := gt.1; replace xa := xa.on hb; replace xb := xb.on hb; replace xr := xr.on hb; replace hB := hB.trans (hb.mono hB.size); have hz2 := hb.size
 (try go_wp2_with fail)
 refine hK.out _ _ (⟨(hb.cell (p := ⟨w.heap.size, 0, none⟩) qa).trans hR0.1, (hb.cell (p := ⟨w.heap.size, 1, none⟩) qa).trans hR0.2.1, (hb.cell (p := ⟨w.heap.size + 1, 0, none⟩) qb).trans hR0.2.2.1, (hb.cell (p := ⟨w.heap.size + 1, 1, none⟩) qb).trans hR0.2.2.2⟩) (fun hR1 => ?_)
 clear hK K hR0
 (try simp only [List.setIfInBounds_toArray, List.set])
 replace qa := Nat.lt_of_lt_of_le qa hz2; replace qb := Nat.lt_of_lt_of_le qb hz2; clear hb hBd
 refine rz 7 fun K hK => ?_
 go_simp
 go_at_call 64; have hBd := hB; refine (refMake_ex _ _ _ _ gt).mono ?_; rintro e w3 ⟨⟨m, rfl, hm⟩, hb⟩; replace hm := Lib.hid hm; replace xa := xa.on hb; replace xb := xb.on hb; replace xr := xr.on hb; replace gt := gt.on hb; replace hB := hB.trans (hb.mono hB.size); have hz3 := hb.size
 (try go_wp2_with fail)
 refine hK.out _ _ (⟨(hb.cell (p := ⟨w.heap.size, 0, none⟩) qa).trans hR1.1, (hb.cell (p := ⟨w.heap.size, 1, none⟩) qa).trans hR1.2.1, (hb.cell (p := ⟨w.heap.size + 1, 0, none⟩) qb).trans hR1.2.2.1, (hb.cell (p := ⟨w.heap.size + 1, 1, none⟩) qb).trans hR1.2.2.2⟩) (fun hR2 => ?_)
 clear hK K hR1
 (try simp only [List.setIfInBounds_toArray, List.set])
 replace qa := Nat.lt_of_lt_of_le qa hz3; replace qb := Nat.lt_of_lt_of_le qb hz3; clear hb hBd
 have pr := xr.all2
 refine rz 8 fun K hK => ?_
 go_simp
 refine hK.out _ _ (⟨cell_store hR2.1 (by omega), cell_store hR2.2.1 (by omega), cell_store hR2.2.2.1 (by omega), cell_store hR2.2.2.2 (by omega)⟩) (fun hR3 => ?_)
 clear hK K hR2
 (try simp only [List.setIfInBounds_toArray, List.set])
 clear pr; replace gt := gt.setB xr rfl 0 (.bool m); replace xa := xa.put_other (w.heap.size + 1 + 1) 0 (.bool m) (by omega); replace xb := xb.put_other (w.heap.size + 1 + 1) 0 (.bool m) (by omega)
 replace xr : Bk _ (w.heap.size + 1 + 1) #[.bool m, .slice none 0 0] _ := xr.put 0 (.bool m)
 replace hB := hB.setCell (p := ⟨w.heap.size + 1 + 1, 0, none⟩) (by first | omega | (simp; omega) | simp) (.bool m); replace gt := gt.setB xr rfl 1 (.slice at1 (dig (b.natAbs - a.natAbs)).length ct); replace xa := xa.put_other (w.heap.size + 1 + 1) 1 (.slice at1 (dig (b.natAbs - a.natAbs)).length ct) (by omega); replace xb := xb.put_other (w.heap.size + 1 + 1) 1 (.slice at1 (dig (b.natAbs - a.natAbs)).length ct) (by omega)
 replace xr : Bk _ (w.heap.size + 1 + 1) #[.bool m, .slice at1 (dig (b.natAbs - a.natAbs)).length ct] _ := xr.put 1 (.slice at1 (dig (b.natAbs - a.natAbs)).length ct)
 replace hB := hB.setCell (p := ⟨w.heap.size + 1 + 1, 1, none⟩) (by first | omega | (simp; omega) | simp) (.slice at1 (dig (b.natAbs - a.natAbs)).length ct)
 refine wpAnyH_done (by kernel_rfl) ?_ _
 refine NoPanic.normal ?_
 clear hR3 qa qb xa xb
 have pr := xr.all2
 have ltr := xr.lt
 go_wp2
 clear ltr pr
 generalize ((w3.setCell ⟨w.heap.size + 1 + 1, 0, none⟩ (.bool m)).setCell ⟨w.heap.size + 1 + 1, 1, none⟩ (.slice at1 (dig (b.natAbs - a.natAbs)).length ct)) = WF at *
 have pr := xr.all2
 have ltr := xr.lt
 exact bodyPost_ret (v := .agg #[.bool m, .slice at1 (dig (b.natAbs - a.natAbs)).length ct]) (by simp [results, Tryz.results124, go_sem, pr]) rfl ⟨⟨_, rfl, num_make (by rw [hm.out, E.out.2]; exact HS.out.1) HS.out.2 gt⟩, hB⟩
theorem refSum_more (ba : Bool) (aa : Option Addr) (ka ca : Nat) (bb : Bool) (ab : Option Addr) (kb cb : Nat) (a b : Int) (sa : (dig a.natAbs).length ≤ 16384) (hs : (ba == bb) = false) (hl : ¬ a.natAbs < b.natAbs) (w : World) (na : Num w (.agg #[.bool ba, .slice aa ka ca]) a) (nb : Num w (.agg #[.bool bb, .slice ab kb cb]) b) :
  Calls Tryz.prog 124 #[.agg #[.bool ba, .slice aa ka ca], .agg #[.bool bb, .slice ab kb cb]] w fun e w' => (∃ v, e = .returned v ∧ Num w' v (a + b)) ∧ Below w.heap.size w w' := by
 obtain ⟨ea, la⟩ := lim_of_num na
 obtain ⟨eb, lb⟩ := lim_of_num nb
 have hL := fun W (hW : Below w.heap.size w W) => refLess_any (.slice aa ka ca) (.slice ab kb cb) a.natAbs b.natAbs W (la.below hW (Nat.le_refl _)) (lb.below hW (Nat.le_refl _))
 rw [decide_eq_false hl] at hL
 have HL := Lib.hid hL
 clear hL
 have HT := Lib.hid (fun W (hW : Below w.heap.size w W) => refMinus_any (.slice aa ka ca) (.slice ab kb cb) a.natAbs b.natAbs (Nat.le_of_not_lt hl) sa W (la.below hW (Nat.le_refl _)) (lb.below hW (Nat.le_refl _)))
 have hq := hs
 rw [ea, eb] at hq
 have HS := Lib.hid (sum_more hq hl)
 clear hq
 have E := Lib.hid (And.intro ea eb)
 clear ea eb la lb na nb sa hl
 have hB := Below.refl w.heap.size w
 obtain ⟨al, xa, hN⟩ := mk hB #[.bool ba, .slice aa ka ca] 24
 replace hB := hN; clear al hN
 try simp only [World.size_alloc] at xa
 obtain ⟨al, xb, hN⟩ := mk hB #[.bool bb, .slice ab kb cb] 24
 replace xa := xa.on al; replace hB := hN; clear al hN
 try simp only [World.size_alloc] at xb
 obtain ⟨al, xr, hN⟩ := mk hB #[.bool false, .slice none 0 0] 24
 replace xa := xa.on al; replace xb := xb.on al; replace hB := hN; clear al hN
 try simp only [World.size_alloc] at xr
 go_enter Tryz.func124, Tryz.ntmps124
 have pa := xa.all2
 have pb := xb.all2
 have pr := xr.all2
 have lta := xa.lt
 have ltb := xb.lt
 have ltr := xr.lt
 go_wp2_with fail
 clear lta ltb ltr pa pb pr
 refine (HL.out _ hB).mono ?_
 rintro e w1 ⟨rfl, hb⟩
 replace xa := xa.on hb; replace xb := xb.on hb; replace xr := xr.on hb
 have hz1 := hb.size
 try simp at hz1
 replace hB := hB.trans (hb.mono hB.size); clear hb
 have pa := xa.all2
 have pb := xb.all2
 have pr := xr.all2
 have lta := xa.lt
 have ltb := xb.lt
 have ltr := xr.lt
 go_wp2_with fail
 clear lta ltb ltr pa pb pr
 obtain ⟨wa, hwa⟩ : ∃ W, W = w1 := ⟨_, rfl⟩
 rw [← hwa] at hB xa xb xr ⊢
 clear hwa
 have qa := xa.lt
 have qb := xb.lt
 obtain ⟨ga0, ga1⟩ := xa.cells2
 obtain ⟨gb0, gb1⟩ := xb.cells2
 refine wp_region_noPanic ?_
 refine wp_region_held_drew (S := (fun w' => w'.cell? ⟨w.heap.size, 0, none⟩ = some (.bool ba) ∧ w'.cell? ⟨w.heap.size, 1, none⟩ = some (.slice aa ka ca) ∧ w'.cell? ⟨w.heap.size + 1, 0, none⟩ = some (.bool bb) ∧ w'.cell? ⟨w.heap.size + 1, 1, none⟩ = some (.slice ab kb cb))) (by kernel_rfl) ⟨ga0, ga1, gb0, gb1⟩ (fun hR0 => ?_)
 change wpAnyH _ _ _ _ _ 9 #[false, false, false, false, false, false, false, false, false] _ _
 clear ga0 ga1 gb0 gb1
 refine tz 0 ?_
 (try simp only [Act.put, List.setIfInBounds_toArray, List.set])
 refine tz 1 ?_
 (try simp only [Act.put, List.setIfInBounds_toArray, List.set])
 refine tz 2 ?_
 (try simp only [Act.put, List.setIfInBounds_toArray, List.set])
 refine tz 3 ?_
 (try simp only [Act.put, List.setIfInBounds_toArray, List.set])
 refine tz 4 ?_
 (try simp only [Act.put, List.setIfInBounds_toArray, List.set])
 refine tz 5 ?_
 (try simp only [Act.put, List.setIfInBounds_toArray, List.set])
 refine rz 6 fun K hK => ?_
 go_simp
 go_at_call 163; have hBd := hB.drew; refine (HT.out _ hBd).mono ?_; rintro e w2 ⟨⟨vt, rfl, gt⟩, hb⟩; replace hb := (Below.refl wa.heap.size wa).drew.trans hb; obtain ⟨at1, ct, rfl⟩ := lf_slice0 gt; replace gt := gt.1; replace xa := xa.on hb; replace xb := xb.on hb; replace xr := xr.on hb; replace hB := hB.trans (hb.mono hB.size); have hz2 := hb.size
 (try go_wp2_with fail)
 refine hK.out _ _ (⟨(hb.cell (p := ⟨w.heap.size, 0, none⟩) qa).trans hR0.1, (hb.cell (p := ⟨w.heap.size, 1, none⟩) qa).trans hR0.2.1, (hb.cell (p := ⟨w.heap.size + 1, 0, none⟩) qb).trans hR0.2.2.1, (hb.cell (p := ⟨w.heap.size + 1, 1, none⟩) qb).trans hR0.2.2.2⟩) (fun hR1 => ?_)
 clear hK K hR0
 (try simp only [List.setIfInBounds_toArray, List.set])
 replace qa := Nat.lt_of_lt_of_le qa hz2; replace qb := Nat.lt_of_lt_of_le qb hz2; clear hb hBd
 refine rz 7 fun K hK => ?_
 go_simp
 go_at_call 64; have hBd := hB; refine (refMake_ex _ _ _ _ gt).mono ?_; rintro e w3 ⟨⟨m, rfl, hm⟩, hb⟩; replace hm := Lib.hid hm; replace xa := xa.on hb; replace xb := xb.on hb; replace xr := xr.on hb; replace gt := gt.on hb; replace hB := hB.trans (hb.mono hB.size); have hz3 := hb.size
 (try go_wp2_with fail)
 refine hK.out _ _ (⟨(hb.cell (p := ⟨w.heap.size, 0, none⟩) qa).trans hR1.1, (hb.cell (p := ⟨w.heap.size, 1, none⟩) qa).trans hR1.2.1, (hb.cell (p := ⟨w.heap.size + 1, 0, none⟩) qb).trans hR1.2.2.1, (hb.cell (p := ⟨w.heap.size + 1, 1, none⟩) qb).trans hR1.2.2.2⟩) (fun hR2 => ?_)
 clear hK K hR1
 (try simp only [List.setIfInBounds_toArray, List.set])
 replace qa := Nat.lt_of_lt_of_le qa hz3; replace qb := Nat.lt_of_lt_of_le qb hz3; clear hb hBd
 have pr := xr.all2
 refine rz 8 fun K hK => ?_
 go_simp
 refine hK.out _ _ (⟨cell_store hR2.1 (by omega), cell_store hR2.2.1 (by omega), cell_store hR2.2.2.1 (by omega), cell_store hR2.2.2.2 (by omega)⟩) (fun hR3 => ?_)
 clear hK K hR2
 (try simp only [List.setIfInBounds_toArray, List.set])
 clear pr; replace gt := gt.setB xr rfl 0 (.bool m); replace xa := xa.put_other (w.heap.size + 1 + 1) 0 (.bool m) (by omega); replace xb := xb.put_other (w.heap.size + 1 + 1) 0 (.bool m) (by omega)
 replace xr : Bk _ (w.heap.size + 1 + 1) #[.bool m, .slice none 0 0] _ := xr.put 0 (.bool m)
 replace hB := hB.setCell (p := ⟨w.heap.size + 1 + 1, 0, none⟩) (by first | omega | (simp; omega) | simp) (.bool m); replace gt := gt.setB xr rfl 1 (.slice at1 (dig (a.natAbs - b.natAbs)).length ct); replace xa := xa.put_other (w.heap.size + 1 + 1) 1 (.slice at1 (dig (a.natAbs - b.natAbs)).length ct) (by omega); replace xb := xb.put_other (w.heap.size + 1 + 1) 1 (.slice at1 (dig (a.natAbs - b.natAbs)).length ct) (by omega)
 replace xr : Bk _ (w.heap.size + 1 + 1) #[.bool m, .slice at1 (dig (a.natAbs - b.natAbs)).length ct] _ := xr.put 1 (.slice at1 (dig (a.natAbs - b.natAbs)).length ct)
 replace hB := hB.setCell (p := ⟨w.heap.size + 1 + 1, 1, none⟩) (by first | omega | (simp; omega) | simp) (.slice at1 (dig (a.natAbs - b.natAbs)).length ct)
 refine wpAnyH_done (by kernel_rfl) ?_ _
 refine NoPanic.normal ?_
 clear hR3 qa qb xa xb
 have pr := xr.all2
 have ltr := xr.lt
 go_wp2
 clear ltr pr
 generalize ((w3.setCell ⟨w.heap.size + 1 + 1, 0, none⟩ (.bool m)).setCell ⟨w.heap.size + 1 + 1, 1, none⟩ (.slice at1 (dig (a.natAbs - b.natAbs)).length ct)) = WF at *
 have pr := xr.all2
 have ltr := xr.lt
 exact bodyPost_ret (v := .agg #[.bool m, .slice at1 (dig (a.natAbs - b.natAbs)).length ct]) (by simp [results, Tryz.results124, go_sem, pr]) rfl ⟨⟨_, rfl, num_make (by rw [hm.out, E.out.1]; exact HS.out.1) HS.out.2 gt⟩, hB⟩
theorem refProduct_num (va vb : Value) (a b : Int) (sa : (dig a.natAbs).length ≤ 8192) (sb : (dig b.natAbs).length ≤ 8192) (w : World) (h : Num w va a) (g : Num w vb b) : Calls Tryz.prog 118 #[va, vb] w fun e w' => (∃ v, e = .returned v ∧ Num w' v (a * b)) ∧ Below w.heap.size w w' := by
 obtain ⟨b1, x, k, c, rfl⟩ := h.opened
 obtain ⟨b2, y, l, d, rfl⟩ := g.opened
 exact refProduct_raw b1 x k c b2 y l d a b sa sb w h g
theorem refSum_num (va vb : Value) (a b : Int) (sa : (dig a.natAbs).length ≤ 16384) (sb : (dig b.natAbs).length ≤ 16384) (w : World) (h : Num w va a) (g : Num w vb b) : Calls Tryz.prog 124 #[va, vb] w fun e w' => (∃ v, e = .returned v ∧ Num w' v (a + b)) ∧ Below w.heap.size w w' := by
 obtain ⟨b1, x, k, c, rfl⟩ := h.opened
 obtain ⟨b2, y, l, d, rfl⟩ := g.opened
 cases hs : (b1 == b2) with
 | true => exact refSum_same b1 x k c b2 y l d a b sa sb hs w h g
 | false =>
  by_cases hl : a.natAbs < b.natAbs
  · exact refSum_less b1 x k c b2 y l d a b sb hs hl w h g
  · exact refSum_more b1 x k c b2 y l d a b sa hs hl w h g
end Go.Proofs.YtmbcnfogjncdaaaGreat
namespace Go.Proofs.YtmbcnfogjncdaaaGreat
open Go.RowKit Wh
def AtN (W wx : World) (v6 : Value) (z : Int) : Prop := ∃ A b a k c, v6 = .pointer (some ⟨A, 0, none⟩) ∧ Bk wx A #[.bool b, .slice a k c] 24 ∧ Num wx (.agg #[.bool b, .slice a k c]) z ∧ W.heap.size ≤ A ∧ Below W.heap.size W wx
theorem refValid_any (b : Bool) (s : Value) (l : List Nat) (w : World) (h : Lim w s l) :
    Calls Tryz.prog 8 #[.agg #[.bool b, s]] w fun e w' => e = .returned (.bool (vld b l)) ∧ Below w.heap.size w w' := by
  obtain ⟨a, cap, rfl, hlc, ⟨hcm, hcl, hcn⟩, hcs⟩ := id h
  clear hcn
  by_cases hl : l = []
  · subst hl
    go_enter Tryz.func8, Tryz.ntmps8
    go_wp2
    go_ret
    exact ⟨by simp [vld], (Below.refl _ _).alloc (Nat.le_refl _) _⟩
  · have h0 : (0 : Int) < (l.length : Int) := by have := List.length_pos_iff.2 hl; omega
    have h1 : ((l.length : Int) == 0) = false := by simp; exact hl
    rcases hcs with hcs | ⟨bk, off, rfl, hc⟩
    · exact absurd hcs hl
    · have hlast := hc (l.length - 1) (by omega)
      have hbl : bk < w.heap.size := lt_of_cell hlast
      by_cases hlen : l.length ≤ 1024
      · have h2 : (l.length : Int) ≤ 1024 := by omega
        have e1 : off + (l.length - 1) = off + ((l.length : Int) - 1).toNat := by omega
        rw [e1] at hlast
        go_enter Tryz.func8, Tryz.ntmps8
        go_wp2
        go_ret
        have e3 : vld b l = (((l[l.length - 1]?.getD 0 : Nat) : Int) != 0) := by
          unfold vld
          rw [if_neg hl, decide_eq_true hlen, Bool.true_and, Bool.eq_iff_iff]
          simp
        exact ⟨by rw [e3]; rfl, (Below.refl _ _).alloc (Nat.le_refl _) _⟩
      · have h2 : ¬ (l.length : Int) ≤ 1024 := by omega
        go_enter Tryz.func8, Tryz.ntmps8
        go_wp2
        go_ret
        have e3 : vld b l = false := by
          unfold vld
          rw [if_neg hl, decide_eq_false hlen, Bool.false_and]
        exact ⟨by rw [e3]; rfl, (Below.refl _ _).alloc (Nat.le_refl _) _⟩
end Go.Proofs.YtmbcnfogjncdaaaGreat
