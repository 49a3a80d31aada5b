/- A part of the proofs about fractions. -/
import Derived.Test.YtmbcnfogjncdaaaGreatQFr1
import Derived.Test.YtmbcnfogjncdaaaGreatQFr25
set_option maxRecDepth 100000
set_option maxHeartbeats 2000000
namespace Go.Proofs.YtmbcnfogjncdaaaGreat
open Go.RowKit Wh
def AtN (W wx : World) (v6 : Value) (z : Int) : Prop := ∃ A b a k c, v6 = .pointer (some ⟨A, 0, none⟩) ∧ Bk wx A #[.bool b, .slice a k c] 24 ∧ Num wx (.agg #[.bool b, .slice a k c]) z ∧ W.heap.size ≤ A ∧ Below W.heap.size W wx
theorem atN_old {W wm : World} {b : Bool} {a : Option Addr} {k c : Nat} {z : Int} {X : Nat} (hB : Below W.heap.size W wm) (hX : W.heap.size ≤ X) (x : Bk wm X #[.bool false, .slice none 0 0] 24) (g : Num wm (.agg #[.bool b, .slice a k c]) z) :
  AtN W ((wm.setCell ⟨X, 0, none⟩ (.bool b)).setCell ⟨X, 1, none⟩ (.slice a k c)) (.pointer (some ⟨X, 0, none⟩)) z :=
 ⟨_, _, _, _, _, rfl, (x.put 0 _).put 1 _, (g.setB x rfl 0 _).setB (x.put 0 _) rfl 1 _, hX, (hB.setCell (p := ⟨X, 0, none⟩) hX _).setCell (p := ⟨X, 1, none⟩) hX _⟩
theorem floor_uni {a b q r : Int} (hb : 0 < b) (h : r + b * q = a) (h0 : 0 ≤ r) (h1 : r < b) : a / b = q ∧ a % b = r := (Int.ediv_emod_unique hb).2 ⟨h, h0, h1⟩
theorem nat_parts (x y : Nat) : ((x % y : Nat) : Int) + (y : Int) * ((x / y : Nat) : Int) = (x : Int) := by
 have h := Nat.mod_add_div x y
 have h2 := congrArg (fun n : Nat => (n : Int)) h
 simpa using h2
theorem floor_pos {a b : Int} (hb : 0 < b) (ha : 0 ≤ a) : a.natAbs / b.natAbs = (a / b).natAbs ∧ 0 ≤ a / b ∧ a.natAbs % b.natAbs = (a % b).natAbs ∧ 0 ≤ a % b := by
 have h := nat_parts a.natAbs b.natAbs
 have hr : a.natAbs % b.natAbs < b.natAbs := Nat.mod_lt _ (by omega)
 rw [Int.natAbs_of_nonneg ha, Int.natAbs_of_nonneg (Int.le_of_lt hb)] at h
 generalize a.natAbs / b.natAbs = q at *
 generalize a.natAbs % b.natAbs = r at *
 obtain ⟨h1, h2⟩ := floor_uni hb h (by omega) (by omega)
 rw [h1, h2]
 omega
theorem floor_zero {a b : Int} (hb : 0 < b) (ha : a < 0) (h0 : a.natAbs % b.natAbs = 0) : a.natAbs / b.natAbs = (a / b).natAbs ∧ a / b = -((a.natAbs / b.natAbs : Nat) : Int) ∧ a % b = 0 := by
 have h := nat_parts a.natAbs b.natAbs
 rw [h0] at h
 have e1 : (a.natAbs : Int) = -a := by omega
 have e2 : (b.natAbs : Int) = b := by omega
 rw [e1, e2] at h
 generalize a.natAbs / b.natAbs = q at *
 obtain ⟨h1, h2⟩ := floor_uni (a := a) (q := -(q : Int)) (r := 0) hb (by rw [Int.mul_neg]; omega) (by omega) hb
 rw [h1, h2]
 omega
theorem floor_adj {a b : Int} (hb : 0 < b) (ha : a < 0) (h0 : a.natAbs % b.natAbs ≠ 0) : a.natAbs / b.natAbs + 1 = (a / b).natAbs ∧ a / b < 0 ∧ b.natAbs - a.natAbs % b.natAbs = (a % b).natAbs ∧ 0 ≤ a % b := by
 have h := nat_parts a.natAbs b.natAbs
 have hr : a.natAbs % b.natAbs < b.natAbs := Nat.mod_lt _ (by omega)
 have e1 : (a.natAbs : Int) = -a := by omega
 have e2 : (b.natAbs : Int) = b := by omega
 rw [e1, e2] at h
 generalize a.natAbs / b.natAbs = q at *
 generalize a.natAbs % b.natAbs = r at *
 obtain ⟨h1, h2⟩ := floor_uni (a := a) (q := -((q : Int) + 1)) (r := b - (r : Int)) hb (by rw [Int.mul_neg, Int.mul_add, Int.mul_one]; omega) (by omega) (by omega)
 rw [h1, h2]
 omega
theorem refOrder_raw (ba : Bool) (aa : Option Addr) (ka ca : Nat) (bb : Bool) (ab : Option Addr) (kb cb : Nat) (a b : Int) (sa : (dig a.natAbs).length ≤ 16384) (sb : (dig b.natAbs).length ≤ 16384) (w : World) (na : Num w (.agg #[.bool ba, .slice aa ka ca]) a) (nb : Num w (.agg #[.bool bb, .slice ab kb cb]) b) :
  Calls Tryz.prog 91 #[.agg #[.bool ba, .slice aa ka ca], .agg #[.bool bb, .slice ab kb cb]] w fun e w' => e = .returned (.int .i64 (cmpI a b)) ∧ Below w.heap.size w w' := by
 have HN := Lib.hid (fun W (hW : Below w.heap.size w W) => refNeg_num _ b W (nb.below hW (Nat.le_refl _)))
 have HS := Lib.hid (fun v W (h : Num W v (-b)) (hW : Below w.heap.size w W) => refSum_num _ v a (-b) sa (by rw [Int.natAbs_neg]; exact sb) W (na.below hW (Nat.le_refl _)) h)
 clear na nb sa sb
 obtain ⟨o, ho⟩ : ∃ o, o = cmpI a b := ⟨_, rfl⟩
 rw [← ho]
 have HO := Lib.hid ho
 clear ho
 have hB := Below.refl w.heap.size w
 obtain ⟨al, xa, hN⟩ := mk hB #[.bool ba, .slice aa ka ca] 24
 replace hB := hN; clear al hN
 try simp only [World.size_alloc] at xa
 obtain ⟨al, xb, hN⟩ := mk hB #[.bool bb, .slice ab kb cb] 24
 replace xa := xa.on al; replace hB := hN; clear al hN
 try simp only [World.size_alloc] at xb
 go_enter Tryz.func91, Tryz.ntmps91
 have pa := xa.all2
 have pb := xb.all2
 have lta := xa.lt
 have ltb := xb.lt
 go_wp2_with fail
 clear lta ltb pa pb
 obtain ⟨wa, hwa⟩ : ∃ W, W = ((w.alloc (.cells #[.bool ba, .slice aa ka ca] 24)).alloc (.cells #[.bool bb, .slice ab kb cb] 24)) := ⟨_, rfl⟩
 rw [← hwa] at hB xa xb ⊢
 clear hwa
 have HN2 := Lib.hid (fun W (hW : Below wa.heap.size wa W) => HN.out W (hB.trans (hW.mono hB.size)))
 have HS2 := Lib.hid (fun v W h (hW : Below wa.heap.size wa W) => HS.out v W h (hB.trans (hW.mono hB.size)))
 go_cut [5] (fun s6 wx => AtN wa wx s6 (a + -b))
 case first =>
  have hM : Below wa.heap.size wa wa.drew := (Below.refl wa.heap.size wa).drew
  obtain ⟨ga0, ga1⟩ := xa.cells2
  obtain ⟨gb0, gb1⟩ := xb.cells2
  replace xa := xa.on hM; replace xb := xb.on hM
  refine wp_region_noPanic ?_
  refine wp_region_held_drew (S := (fun w' => w'.cell? ⟨w.heap.size, 0, none⟩ = some (.bool ba) ∧ w'.cell? ⟨w.heap.size, 1, none⟩ = some (.slice aa ka ca) ∧ w'.cell? ⟨w.heap.size + 1, 0, none⟩ = some (.bool bb) ∧ w'.cell? ⟨w.heap.size + 1, 1, none⟩ = some (.slice ab kb cb))) (by kernel_rfl) ⟨ga0, ga1, gb0, gb1⟩ (fun hR0 => ?_)
  change wpAnyH _ _ _ _ _ 6 #[false, false, false, false, false, false] _ _
  clear ga0 ga1 gb0 gb1
  generalize wa.drew = wd at *
  refine tz 0 ?_
  (try simp only [Act.put, List.setIfInBounds_toArray, List.set])
  refine tz 1 ?_
  (try simp only [Act.put, List.setIfInBounds_toArray, List.set])
  have qa := xa.lt
  have qb := xb.lt
  refine rd2 (i := 2) (j := 4) (by kernel_rfl) rfl rfl (fun K hK => ?_) (fun K hK => ?_)
  ·
   go_simp
   go_at_call 140; refine (HN2.out _ hM).mono ?_; rintro e wn ⟨⟨v1, rfl, gn⟩, hb⟩; obtain ⟨bn, an, kn, cn, rfl⟩ := gn.opened; replace xa := xa.on hb; replace xb := xb.on hb; replace hM := hM.trans (hb.mono hM.size)
   (try go_wp2_with fail)
   refine hK.out _ _ (⟨(hb.cell (p := ⟨w.heap.size, 0, none⟩) qa).trans hR0.1, (hb.cell (p := ⟨w.heap.size, 1, none⟩) qa).trans hR0.2.1, (hb.cell (p := ⟨w.heap.size + 1, 0, none⟩) qb).trans hR0.2.2.1, (hb.cell (p := ⟨w.heap.size + 1, 1, none⟩) qb).trans hR0.2.2.2⟩) (fun hR1 => ?_)
   clear hK K hR0
   (try simp only [List.setIfInBounds_toArray, List.set])
   clear hb qa qb
   have qa := xa.lt
   have qb := xb.lt
   refine rd2 (i := 3) (j := 4) (by kernel_rfl) rfl rfl (fun K hK => ?_) (fun K hK => ?_)
   ·
    go_simp
    go_at_call 124; refine (HS2.out _ _ gn hM).mono ?_; rintro e wq ⟨⟨v2, rfl, gr⟩, hb⟩; obtain ⟨br, ar, kr, cr, rfl⟩ := gr.opened; replace xa := xa.on hb; replace xb := xb.on hb; replace gn := gn.on hb; replace hM := hM.trans (hb.mono hM.size)
    (try go_wp2_with fail)
    refine hK.out _ _ (⟨(hb.cell (p := ⟨w.heap.size, 0, none⟩) qa).trans hR1.1, (hb.cell (p := ⟨w.heap.size, 1, none⟩) qa).trans hR1.2.1, (hb.cell (p := ⟨w.heap.size + 1, 0, none⟩) qb).trans hR1.2.2.1, (hb.cell (p := ⟨w.heap.size + 1, 1, none⟩) qb).trans hR1.2.2.2⟩) (fun hR2 => ?_)
    clear hK K hR1
    (try simp only [List.setIfInBounds_toArray, List.set])
    clear hb qa qb
    have qa := xa.lt
    have qb := xb.lt
    have na : wq.heap.size ≠ w.heap.size := (by have := xa.lt; omega)
    have nb : wq.heap.size ≠ w.heap.size + 1 := (by have := xb.lt; omega)
    have hb := (Below.refl wq.heap.size wq).alloc (Nat.le_refl _) (.cells #[.bool false, .slice none 0 0] 24)
    refine rz 4 fun K hK => ?_
    go_simp
    refine hK.out _ _ (⟨(hb.cell (p := ⟨w.heap.size, 0, none⟩) qa).trans hR2.1, (hb.cell (p := ⟨w.heap.size, 1, none⟩) qa).trans hR2.2.1, (hb.cell (p := ⟨w.heap.size + 1, 0, none⟩) qb).trans hR2.2.2.1, (hb.cell (p := ⟨w.heap.size + 1, 1, none⟩) qb).trans hR2.2.2.2⟩) (fun hR3 => ?_)
    clear hK K hR2
    (try simp only [List.setIfInBounds_toArray, List.set])
    have xz := Bk.new wq #[.bool false, .slice none 0 0] 24
    have lz := hM.size
    replace xa := xa.on hb; replace xb := xb.on hb; replace gn := gn.on hb; replace gr := gr.on hb; replace hM := hM.trans (hb.mono hM.size); clear hb qa qb
    generalize hA : wq.heap.size = AZ at *
    generalize wq.alloc (.cells #[.bool false, .slice none 0 0] 24) = wz at *
    clear hA
    have qa := xa.lt
    have qb := xb.lt
    have pz := xz.all2
    refine rz 5 fun K hK => ?_
    go_simp
    refine hK.out _ _ (⟨cell_store hR3.1 na, cell_store hR3.2.1 na, cell_store hR3.2.2.1 nb, cell_store hR3.2.2.2 nb⟩) (fun hR4 => ?_)
    clear hK K hR3
    (try simp only [List.setIfInBounds_toArray, List.set])
    refine wpAnyH_done (by kernel_rfl) ?_ _
    refine NoPanic.normal ?_
    clear hR4
    go_wp2_with fail
    go_meet
    exact atN_old hM lz xz gr
   ·
    have na : wn.heap.size ≠ w.heap.size := (by have := xa.lt; omega)
    have nb : wn.heap.size ≠ w.heap.size + 1 := (by have := xb.lt; omega)
    have hb := (Below.refl wn.heap.size wn).alloc (Nat.le_refl _) (.cells #[.bool false, .slice none 0 0] 24)
    go_simp
    refine hK.out _ _ (⟨(hb.cell (p := ⟨w.heap.size, 0, none⟩) qa).trans hR1.1, (hb.cell (p := ⟨w.heap.size, 1, none⟩) qa).trans hR1.2.1, (hb.cell (p := ⟨w.heap.size + 1, 0, none⟩) qb).trans hR1.2.2.1, (hb.cell (p := ⟨w.heap.size + 1, 1, none⟩) qb).trans hR1.2.2.2⟩) (fun hR2 => ?_)
    clear hK K hR1
    (try simp only [List.setIfInBounds_toArray, List.set])
    have xz := Bk.new wn #[.bool false, .slice none 0 0] 24
    have lz := hM.size
    replace xa := xa.on hb; replace xb := xb.on hb; replace gn := gn.on hb; replace hM := hM.trans (hb.mono hM.size); clear hb qa qb
    generalize hA : wn.heap.size = AZ at *
    generalize wn.alloc (.cells #[.bool false, .slice none 0 0] 24) = wz at *
    clear hA
    have qa := xa.lt
    have qb := xb.lt
    refine rz 3 fun K hK => ?_
    go_simp
    go_at_call 124; refine (HS2.out _ _ gn hM).mono ?_; rintro e wq ⟨⟨v2, rfl, gr⟩, hb⟩; obtain ⟨br, ar, kr, cr, rfl⟩ := gr.opened; replace xa := xa.on hb; replace xb := xb.on hb; replace xz := xz.on hb; replace gn := gn.on hb; replace hM := hM.trans (hb.mono hM.size)
    (try go_wp2_with fail)
    refine hK.out _ _ (⟨(hb.cell (p := ⟨w.heap.size, 0, none⟩) qa).trans hR2.1, (hb.cell (p := ⟨w.heap.size, 1, none⟩) qa).trans hR2.2.1, (hb.cell (p := ⟨w.heap.size + 1, 0, none⟩) qb).trans hR2.2.2.1, (hb.cell (p := ⟨w.heap.size + 1, 1, none⟩) qb).trans hR2.2.2.2⟩) (fun hR3 => ?_)
    clear hK K hR2
    (try simp only [List.setIfInBounds_toArray, List.set])
    clear hb qa qb
    have qa := xa.lt
    have qb := xb.lt
    have pz := xz.all2
    refine rz 5 fun K hK => ?_
    go_simp
    refine hK.out _ _ (⟨cell_store hR3.1 na, cell_store hR3.2.1 na, cell_store hR3.2.2.1 nb, cell_store hR3.2.2.2 nb⟩) (fun hR4 => ?_)
    clear hK K hR3
    (try simp only [List.setIfInBounds_toArray, List.set])
    refine wpAnyH_done (by kernel_rfl) ?_ _
    refine NoPanic.normal ?_
    clear hR4
    go_wp2_with fail
    go_meet
    exact atN_old hM lz xz gr
  ·
   have na : wd.heap.size ≠ w.heap.size := (by have := xa.lt; omega)
   have nb : wd.heap.size ≠ w.heap.size + 1 := (by have := xb.lt; omega)
   have hb := (Below.refl wd.heap.size wd).alloc (Nat.le_refl _) (.cells #[.bool false, .slice none 0 0] 24)
   go_simp
   refine hK.out _ _ (⟨(hb.cell (p := ⟨w.heap.size, 0, none⟩) qa).trans hR0.1, (hb.cell (p := ⟨w.heap.size, 1, none⟩) qa).trans hR0.2.1, (hb.cell (p := ⟨w.heap.size + 1, 0, none⟩) qb).trans hR0.2.2.1, (hb.cell (p := ⟨w.heap.size + 1, 1, none⟩) qb).trans hR0.2.2.2⟩) (fun hR1 => ?_)
   clear hK K hR0
   (try simp only [List.setIfInBounds_toArray, List.set])
   have xz := Bk.new wd #[.bool false, .slice none 0 0] 24
   have lz := hM.size
   replace xa := xa.on hb; replace xb := xb.on hb; replace hM := hM.trans (hb.mono hM.size); clear hb qa qb
   generalize hA : wd.heap.size = AZ at *
   generalize wd.alloc (.cells #[.bool false, .slice none 0 0] 24) = wz at *
   clear hA
   have qa := xa.lt
   have qb := xb.lt
   refine rz 2 fun K hK => ?_
   go_simp
   go_at_call 140; refine (HN2.out _ hM).mono ?_; rintro e wn ⟨⟨v1, rfl, gn⟩, hb⟩; obtain ⟨bn, an, kn, cn, rfl⟩ := gn.opened; replace xa := xa.on hb; replace xb := xb.on hb; replace xz := xz.on hb; replace hM := hM.trans (hb.mono hM.size)
   (try go_wp2_with fail)
   refine hK.out _ _ (⟨(hb.cell (p := ⟨w.heap.size, 0, none⟩) qa).trans hR1.1, (hb.cell (p := ⟨w.heap.size, 1, none⟩) qa).trans hR1.2.1, (hb.cell (p := ⟨w.heap.size + 1, 0, none⟩) qb).trans hR1.2.2.1, (hb.cell (p := ⟨w.heap.size + 1, 1, none⟩) qb).trans hR1.2.2.2⟩) (fun hR2 => ?_)
   clear hK K hR1
   (try simp only [List.setIfInBounds_toArray, List.set])
   clear hb qa qb
   have qa := xa.lt
   have qb := xb.lt
   refine rz 3 fun K hK => ?_
   go_simp
   go_at_call 124; refine (HS2.out _ _ gn hM).mono ?_; rintro e wq ⟨⟨v2, rfl, gr⟩, hb⟩; obtain ⟨br, ar, kr, cr, rfl⟩ := gr.opened; replace xa := xa.on hb; replace xb := xb.on hb; replace xz := xz.on hb; replace gn := gn.on hb; replace hM := hM.trans (hb.mono hM.size)
   (try go_wp2_with fail)
   refine hK.out _ _ (⟨(hb.cell (p := ⟨w.heap.size, 0, none⟩) qa).trans hR2.1, (hb.cell (p := ⟨w.heap.size, 1, none⟩) qa).trans hR2.2.1, (hb.cell (p := ⟨w.heap.size + 1, 0, none⟩) qb).trans hR2.2.2.1, (hb.cell (p := ⟨w.heap.size + 1, 1, none⟩) qb).trans hR2.2.2.2⟩) (fun hR3 => ?_)
   clear hK K hR2
   (try simp only [List.setIfInBounds_toArray, List.set])
   clear hb qa qb
   have qa := xa.lt
   have qb := xb.lt
   have pz := xz.all2
   refine rz 5 fun K hK => ?_
   go_simp
   refine hK.out _ _ (⟨cell_store hR3.1 na, cell_store hR3.2.1 na, cell_store hR3.2.2.1 nb, cell_store hR3.2.2.2 nb⟩) (fun hR4 => ?_)
   clear hK K hR3
   (try simp only [List.setIfInBounds_toArray, List.set])
   refine wpAnyH_done (by kernel_rfl) ?_ _
   refine NoPanic.normal ?_
   clear hR4
   go_wp2_with fail
   go_meet
   exact atN_old hM lz xz gr
 case rest =>
  obtain ⟨AA, br, ar, kr, cr, rfl, xr, gr, lA, hb⟩ := hcut
  obtain ⟨w1, hwc⟩ : ∃ W : World, W = wc := ⟨_, rfl⟩
  subst hwc
  replace lA := Nat.le_trans hB.size lA; replace xa := xa.on hb; replace xb := xb.on hb; replace hB := hB.trans (hb.mono hB.size); clear hb
  obtain ⟨er, -⟩ := lim_of_num gr
  have hk := (num_len gr).1
  clear gr
  rcases Int.lt_trichotomy a b with h | h | h
  ·
   obtain rfl : o = -1 := HO.out.trans (by unfold cmpI; rw [if_pos h])
   obtain rfl : br = true := er.trans (decide_eq_true (by omega))
   clear hk er
   have pa := xa.all2
   have pb := xb.all2
   have pr := xr.all2
   have lta := xa.lt
   have ltb := xb.lt
   have ltr := xr.lt
   go_wp2
   go_ret
   exact ⟨rfl, hB⟩
  ·
   obtain rfl : o = 0 := HO.out.trans (by unfold cmpI; rw [if_neg (by omega), if_neg (by omega)])
   obtain rfl : br = false := er.trans (decide_eq_false (by omega))
   rw [show a + -b = 0 by omega, show (0 : Int).natAbs = 0 from rfl, dig_zero, List.length_nil] at hk
   subst hk
   clear er
   have pa := xa.all2
   have pb := xb.all2
   have pr := xr.all2
   have lta := xa.lt
   have ltb := xb.lt
   have ltr := xr.lt
   go_wp2
   go_ret
   exact ⟨rfl, hB⟩
  ·
   obtain rfl : o = 1 := HO.out.trans (by unfold cmpI; rw [if_neg (by omega), if_pos h])
   obtain rfl : br = false := er.trans (decide_eq_false (by omega))
   have hk2 : 0 < (kr : Int) := by have h2 := List.length_pos_iff.2 (show dig (a + -b).natAbs ≠ [] from fun e => by have := (dig_nil_iff _).1 e; omega); omega
   clear er hk
   have pa := xa.all2
   have pb := xb.all2
   have pr := xr.all2
   have lta := xa.lt
   have ltb := xb.lt
   have ltr := xr.lt
   go_wp2
   go_ret
   exact ⟨rfl, hB⟩
theorem refFloor_pos (ba : Bool) (aa : Option Addr) (ka ca : Nat) (bb : Bool) (ab : Option Addr) (kb cb : Nat) (a b : Int) (sa : (dig a.natAbs).length ≤ 8192) (sb : (dig b.natAbs).length ≤ 8192) (hb : 0 < b) (ha : 0 ≤ a) (w : World) (na : Num w (.agg #[.bool ba, .slice aa ka ca]) a) (nb : Num w (.agg #[.bool bb, .slice ab kb cb]) b) :
  Calls Tryz.prog 141 #[.agg #[.bool ba, .slice aa ka ca], .agg #[.bool bb, .slice ab kb cb]] w fun e w' => (∃ v1 v2, e = .returned (.tuple #[v1, v2]) ∧ Num w' v1 (a / b) ∧ Num w' v2 (a % b)) ∧ Below w.heap.size w w' := by
 obtain ⟨ea, la⟩ := lim_of_num na
 obtain ⟨eb, lb⟩ := lim_of_num nb
 obtain rfl : bb = false := eb.trans (decide_eq_false (by omega))
 obtain rfl : ba = false := ea.trans (decide_eq_false (by omega))
 have HD := Lib.hid (fun W (hW : Below w.heap.size w W) => refDivided_any (.slice aa ka ca) (.slice ab kb cb) a.natAbs b.natAbs 8192 (by omega) sa sb (Nat.le_refl _) W (la.below hW (Nat.le_refl _)) (lb.below hW (Nat.le_refl _)))
 have HF := Lib.hid (floor_pos hb ha)
 clear ea eb la lb na nb sa sb hb ha
 have hB := Below.refl w.heap.size w
 obtain ⟨al, xa, hN⟩ := mk hB #[.bool false, .slice aa ka ca] 24
 replace hB := hN; clear al hN
 try simp only [World.size_alloc] at xa
 obtain ⟨al, xb, hN⟩ := mk hB #[.bool false, .slice ab kb cb] 24
 replace xa := xa.on al; replace hB := hN; clear al hN
 try simp only [World.size_alloc] at xb
 obtain ⟨al, xq, hN⟩ := mk hB #[.bool false, .slice none 0 0] 24
 replace xa := xa.on al; replace xb := xb.on al; replace hB := hN; clear al hN
 try simp only [World.size_alloc] at xq
 obtain ⟨al, xr, hN⟩ := mk hB #[.bool false, .slice none 0 0] 24
 replace xa := xa.on al; replace xb := xb.on al; replace xq := xq.on al; replace hB := hN; clear al hN
 try simp only [World.size_alloc] at xr
 go_enter Tryz.func141, Tryz.ntmps141
 have pa := xa.all2
 have pb := xb.all2
 have pq := xq.all2
 have pr := xr.all2
 have lta := xa.lt
 have ltb := xb.lt
 have ltq := xq.lt
 have ltr := xr.lt
 go_wp2_with fail
 clear lta ltb ltq ltr pa pb pq pr
 refine (HD.out _ hB).mono ?_
 rintro e w1 ⟨⟨vq, vr, rfl, gq, gr⟩, hb⟩
 obtain ⟨aq, cq, rfl⟩ := lim_slice gq
 obtain ⟨ar, cr, rfl⟩ := lim_slice gr
 replace xa := xa.on hb; replace xb := xb.on hb; replace xq := xq.on hb; replace xr := xr.on hb
 have hz1 := hb.size
 try simp at hz1
 replace hB := hB.trans (hb.mono hB.size); clear hb
 have pa := xa.all2
 have pb := xb.all2
 have pq := xq.all2
 have pr := xr.all2
 have lta := xa.lt
 have ltb := xb.lt
 have ltq := xq.lt
 have ltr := xr.lt
 go_wp2_with fail
 clear lta ltb ltq ltr pa pb pq pr
 obtain ⟨wa, hwa⟩ : ∃ W, W = w1 := ⟨_, rfl⟩
 rw [← hwa] at hB xa xb xq xr gq gr ⊢
 clear hwa
 have qa := xa.lt
 have qb := xb.lt
 obtain ⟨ga0, ga1⟩ := xa.cells2
 obtain ⟨gb0, gb1⟩ := xb.cells2
 refine wp_region_noPanic ?_
 refine wp_region_held_drew (S := (fun w' => w'.cell? ⟨w.heap.size, 0, none⟩ = some (.bool false) ∧ w'.cell? ⟨w.heap.size, 1, none⟩ = some (.slice aa ka ca) ∧ w'.cell? ⟨w.heap.size + 1, 0, none⟩ = some (.bool false) ∧ w'.cell? ⟨w.heap.size + 1, 1, none⟩ = some (.slice ab kb cb))) (by kernel_rfl) ⟨ga0, ga1, gb0, gb1⟩ (fun hR0 => ?_)
 change wpAnyH _ _ _ _ _ 13 #[false, false, false, false, false, false, false, false, false, false, false, false, false] _ _
 clear ga0 ga1 gb0 gb1
 refine tz 0 ?_
 (try simp only [Act.put, List.setIfInBounds_toArray, List.set])
 refine tz 1 ?_
 (try simp only [Act.put, List.setIfInBounds_toArray, List.set])
 refine tz 2 ?_
 (try simp only [Act.put, List.setIfInBounds_toArray, List.set])
 refine tz 3 ?_
 (try simp only [Act.put, List.setIfInBounds_toArray, List.set])
 refine tz 4 ?_
 (try simp only [Act.put, List.setIfInBounds_toArray, List.set])
 refine tz 5 ?_
 (try simp only [Act.put, List.setIfInBounds_toArray, List.set])
 refine tz 7 ?_
 (try simp only [Act.put, List.setIfInBounds_toArray, List.set])
 refine tz 8 ?_
 (try simp only [Act.put, List.setIfInBounds_toArray, List.set])
 refine tz 9 ?_
 (try simp only [Act.put, List.setIfInBounds_toArray, List.set])
 refine rz 6 fun K hK => ?_
 go_simp
 go_at_call 64; have hBd := hB.drew; refine (refMake_ex _ _ _ _ (by exact gq)).mono ?_; rintro e w2 ⟨⟨m1, rfl, hm1⟩, hb⟩; replace hb := (Below.refl wa.heap.size wa).drew.trans hb; replace hm1 := Lib.hid hm1; replace xa := xa.on hb; replace xb := xb.on hb; replace xq := xq.on hb; replace xr := xr.on hb; replace gq := gq.on hb; replace gr := gr.on hb; replace hB := hB.trans (hb.mono hB.size); have hz2 := hb.size
 (try go_wp2_with fail)
 refine hK.out _ _ (⟨(hb.cell (p := ⟨w.heap.size, 0, none⟩) qa).trans hR0.1, (hb.cell (p := ⟨w.heap.size, 1, none⟩) qa).trans hR0.2.1, (hb.cell (p := ⟨w.heap.size + 1, 0, none⟩) qb).trans hR0.2.2.1, (hb.cell (p := ⟨w.heap.size + 1, 1, none⟩) qb).trans hR0.2.2.2⟩) (fun hR1 => ?_)
 clear hK K hR0
 (try simp only [List.setIfInBounds_toArray, List.set])
 replace qa := Nat.lt_of_lt_of_le qa hz2; replace qb := Nat.lt_of_lt_of_le qb hz2; clear hb hBd
 refine rz 10 fun K hK => ?_
 go_simp
 go_at_call 64; have hBd := hB; refine (refMake_ex _ _ _ _ gr).mono ?_; rintro e w3 ⟨⟨m2, rfl, hm2⟩, hb⟩; replace hm2 := Lib.hid hm2; replace xa := xa.on hb; replace xb := xb.on hb; replace xq := xq.on hb; replace xr := xr.on hb; replace gq := gq.on hb; replace gr := gr.on hb; replace hB := hB.trans (hb.mono hB.size); have hz3 := hb.size
 (try go_wp2_with fail)
 refine hK.out _ _ (⟨(hb.cell (p := ⟨w.heap.size, 0, none⟩) qa).trans hR1.1, (hb.cell (p := ⟨w.heap.size, 1, none⟩) qa).trans hR1.2.1, (hb.cell (p := ⟨w.heap.size + 1, 0, none⟩) qb).trans hR1.2.2.1, (hb.cell (p := ⟨w.heap.size + 1, 1, none⟩) qb).trans hR1.2.2.2⟩) (fun hR2 => ?_)
 clear hK K hR1
 (try simp only [List.setIfInBounds_toArray, List.set])
 replace qa := Nat.lt_of_lt_of_le qa hz3; replace qb := Nat.lt_of_lt_of_le qb hz3; clear hb hBd
 have pq := xq.all2
 refine rz 11 fun K hK => ?_
 go_simp
 refine hK.out _ _ (⟨cell_store hR2.1 (by omega), cell_store hR2.2.1 (by omega), cell_store hR2.2.2.1 (by omega), cell_store hR2.2.2.2 (by omega)⟩) (fun hR3 => ?_)
 clear hK K hR2
 (try simp only [List.setIfInBounds_toArray, List.set])
 clear pq; replace gq := gq.setB xq rfl 0 (.bool m1); replace gr := gr.setB xq rfl 0 (.bool m1); replace xa := xa.put_other (w.heap.size + 1 + 1) 0 (.bool m1) (by omega); replace xb := xb.put_other (w.heap.size + 1 + 1) 0 (.bool m1) (by omega); replace xr := xr.put_other (w.heap.size + 1 + 1) 0 (.bool m1) (by omega)
 replace xq : Bk _ (w.heap.size + 1 + 1) #[.bool m1, .slice none 0 0] _ := xq.put 0 (.bool m1)
 replace hB := hB.setCell (p := ⟨w.heap.size + 1 + 1, 0, none⟩) (by first | omega | (simp; omega) | simp) (.bool m1); replace gq := gq.setB xq rfl 1 (.slice aq (dig (a.natAbs / b.natAbs)).length cq); replace gr := gr.setB xq rfl 1 (.slice aq (dig (a.natAbs / b.natAbs)).length cq); replace xa := xa.put_other (w.heap.size + 1 + 1) 1 (.slice aq (dig (a.natAbs / b.natAbs)).length cq) (by omega); replace xb := xb.put_other (w.heap.size + 1 + 1) 1 (.slice aq (dig (a.natAbs / b.natAbs)).length cq) (by omega); replace xr := xr.put_other (w.heap.size + 1 + 1) 1 (.slice aq (dig (a.natAbs / b.natAbs)).length cq) (by omega)
 replace xq : Bk _ (w.heap.size + 1 + 1) #[.bool m1, .slice aq (dig (a.natAbs / b.natAbs)).length cq] _ := xq.put 1 (.slice aq (dig (a.natAbs / b.natAbs)).length cq)
 replace hB := hB.setCell (p := ⟨w.heap.size + 1 + 1, 1, none⟩) (by first | omega | (simp; omega) | simp) (.slice aq (dig (a.natAbs / b.natAbs)).length cq)
 have pr := xr.all2
 refine rz 12 fun K hK => ?_
 go_simp
 refine hK.out _ _ (⟨cell_store hR3.1 (by omega), cell_store hR3.2.1 (by omega), cell_store hR3.2.2.1 (by omega), cell_store hR3.2.2.2 (by omega)⟩) (fun hR4 => ?_)
 clear hK K hR3
 (try simp only [List.setIfInBounds_toArray, List.set])
 clear pr; replace gq := gq.setB xr rfl 0 (.bool m2); replace gr := gr.setB xr rfl 0 (.bool m2); replace xa := xa.put_other (w.heap.size + 1 + 1 + 1) 0 (.bool m2) (by omega); replace xb := xb.put_other (w.heap.size + 1 + 1 + 1) 0 (.bool m2) (by omega); replace xq := xq.put_other (w.heap.size + 1 + 1 + 1) 0 (.bool m2) (by omega)
 replace xr : Bk _ (w.heap.size + 1 + 1 + 1) #[.bool m2, .slice none 0 0] _ := xr.put 0 (.bool m2)
 replace hB := hB.setCell (p := ⟨w.heap.size + 1 + 1 + 1, 0, none⟩) (by first | omega | (simp; omega) | simp) (.bool m2); replace gq := gq.setB xr rfl 1 (.slice ar (dig (a.natAbs % b.natAbs)).length cr); replace gr := gr.setB xr rfl 1 (.slice ar (dig (a.natAbs % b.natAbs)).length cr); replace xa := xa.put_other (w.heap.size + 1 + 1 + 1) 1 (.slice ar (dig (a.natAbs % b.natAbs)).length cr) (by omega); replace xb := xb.put_other (w.heap.size + 1 + 1 + 1) 1 (.slice ar (dig (a.natAbs % b.natAbs)).length cr) (by omega); replace xq := xq.put_other (w.heap.size + 1 + 1 + 1) 1 (.slice ar (dig (a.natAbs % b.natAbs)).length cr) (by omega)
 replace xr : Bk _ (w.heap.size + 1 + 1 + 1) #[.bool m2, .slice ar (dig (a.natAbs % b.natAbs)).length cr] _ := xr.put 1 (.slice ar (dig (a.natAbs % b.natAbs)).length cr)
 replace hB := hB.setCell (p := ⟨w.heap.size + 1 + 1 + 1, 1, none⟩) (by first | omega | (simp; omega) | simp) (.slice ar (dig (a.natAbs % b.natAbs)).length cr)
 refine wpAnyH_done (by kernel_rfl) ?_ _
 refine NoPanic.normal ?_
 clear hR4 qa qb xa xb
 have pq := xq.all2
 have pr := xr.all2
 have ltq := xq.lt
 have ltr := xr.lt
 go_wp2
 clear ltq ltr pq pr
 generalize ((((w3.setCell ⟨w.heap.size + 1 + 1, 0, none⟩ (.bool m1)).setCell ⟨w.heap.size + 1 + 1, 1, none⟩ (.slice aq (dig (a.natAbs / b.natAbs)).length cq)).setCell ⟨w.heap.size + 1 + 1 + 1, 0, none⟩ (.bool m2)).setCell ⟨w.heap.size + 1 + 1 + 1, 1, none⟩ (.slice ar (dig (a.natAbs % b.natAbs)).length cr)) = WF at *
 have pq := xq.all2
 have pr := xr.all2
 have ltq := xq.lt
 have ltr := xr.lt
 exact bodyPost_ret (v := .tuple #[.agg #[.bool m1, .slice aq (dig (a.natAbs / b.natAbs)).length cq], .agg #[.bool m2, .slice ar (dig (a.natAbs % b.natAbs)).length cr]]) (by simp [results, Tryz.results141, go_sem, pq, pr]) rfl ⟨⟨_, _, rfl, num_make (by rw [hm1.out]; exact (decide_eq_false (by have := HF.out; omega)).symm) HF.out.1 gq, num_make (by rw [hm2.out]; exact (decide_eq_false (by have := HF.out; omega)).symm) HF.out.2.2.1 gr⟩, hB⟩
theorem refFloor_zero (ba : Bool) (aa : Option Addr) (ka ca : Nat) (bb : Bool) (ab : Option Addr) (kb cb : Nat) (a b : Int) (sa : (dig a.natAbs).length ≤ 8192) (sb : (dig b.natAbs).length ≤ 8192) (hb : 0 < b) (ha : a < 0) (h0 : a.natAbs % b.natAbs = 0) (w : World) (na : Num w (.agg #[.bool ba, .slice aa ka ca]) a) (nb : Num w (.agg #[.bool bb, .slice ab kb cb]) b) :
  Calls Tryz.prog 141 #[.agg #[.bool ba, .slice aa ka ca], .agg #[.bool bb, .slice ab kb cb]] w fun e w' => (∃ v1 v2, e = .returned (.tuple #[v1, v2]) ∧ Num w' v1 (a / b) ∧ Num w' v2 (a % b)) ∧ Below w.heap.size w w' := by
 obtain ⟨ea, la⟩ := lim_of_num na
 obtain ⟨eb, lb⟩ := lim_of_num nb
 obtain rfl : bb = false := eb.trans (decide_eq_false (by omega))
 obtain rfl : ba = true := ea.trans (decide_eq_true (by omega))
 have HD := Lib.hid (fun W (hW : Below w.heap.size w W) => refDivided_any (.slice aa ka ca) (.slice ab kb cb) a.natAbs b.natAbs 8192 (by omega) sa sb (Nat.le_refl _) W (la.below hW (Nat.le_refl _)) (lb.below hW (Nat.le_refl _)))
 have HF := Lib.hid (floor_zero hb ha h0)
 rw [h0] at HD
 clear ea eb la lb na nb sa sb hb ha h0
 have hB := Below.refl w.heap.size w
 obtain ⟨al, xa, hN⟩ := mk hB #[.bool true, .slice aa ka ca] 24
 replace hB := hN; clear al hN
 try simp only [World.size_alloc] at xa
 obtain ⟨al, xb, hN⟩ := mk hB #[.bool false, .slice ab kb cb] 24
 replace xa := xa.on al; replace hB := hN; clear al hN
 try simp only [World.size_alloc] at xb
 obtain ⟨al, xq, hN⟩ := mk hB #[.bool false, .slice none 0 0] 24
 replace xa := xa.on al; replace xb := xb.on al; replace hB := hN; clear al hN
 try simp only [World.size_alloc] at xq
 obtain ⟨al, xr, hN⟩ := mk hB #[.bool false, .slice none 0 0] 24
 replace xa := xa.on al; replace xb := xb.on al; replace xq := xq.on al; replace hB := hN; clear al hN
 try simp only [World.size_alloc] at xr
 go_enter Tryz.func141, Tryz.ntmps141
 have pa := xa.all2
 have pb := xb.all2
 have pq := xq.all2
 have pr := xr.all2
 have lta := xa.lt
 have ltb := xb.lt
 have ltq := xq.lt
 have ltr := xr.lt
 go_wp2_with fail
 clear lta ltb ltq ltr pa pb pq pr
 refine (HD.out _ hB).mono ?_
 rintro e w1 ⟨⟨vq, vr, rfl, gq, gr⟩, hb⟩
 obtain ⟨aq, cq, rfl⟩ := lim_slice gq
 obtain ⟨ar, cr, rfl⟩ := lim_slice gr
 replace xa := xa.on hb; replace xb := xb.on hb; replace xq := xq.on hb; replace xr := xr.on hb
 have hz1 := hb.size
 try simp at hz1
 replace hB := hB.trans (hb.mono hB.size); clear hb
 have hl0 : (dig 0).length = 0 := by rw [dig_zero]; rfl
 rw [hl0] at gr ⊢
 have pa := xa.all2
 have pb := xb.all2
 have pq := xq.all2
 have pr := xr.all2
 have lta := xa.lt
 have ltb := xb.lt
 have ltq := xq.lt
 have ltr := xr.lt
 go_wp2_with fail
 clear lta ltb ltq ltr pa pb pq pr
 obtain ⟨wa, hwa⟩ : ∃ W, W = w1 := ⟨_, rfl⟩
 rw [← hwa] at hB xa xb xq xr gq gr ⊢
 clear hwa
 have qa := xa.lt
 have qb := xb.lt
 obtain ⟨ga0, ga1⟩ := xa.cells2
 obtain ⟨gb0, gb1⟩ := xb.cells2
 refine wp_region_noPanic ?_
 refine wp_region_held_drew (S := (fun w' => w'.cell? ⟨w.heap.size, 0, none⟩ = some (.bool true) ∧ w'.cell? ⟨w.heap.size, 1, none⟩ = some (.slice aa ka ca) ∧ w'.cell? ⟨w.heap.size + 1, 0, none⟩ = some (.bool false) ∧ w'.cell? ⟨w.heap.size + 1, 1, none⟩ = some (.slice ab kb cb))) (by kernel_rfl) ⟨ga0, ga1, gb0, gb1⟩ (fun hR0 => ?_)
 change wpAnyH _ _ _ _ _ 13 #[false, false, false, false, false, false, false, false, false, false, false, false, false] _ _
 clear ga0 ga1 gb0 gb1
 refine tz 0 ?_
 (try simp only [Act.put, List.setIfInBounds_toArray, List.set])
 refine tz 1 ?_
 (try simp only [Act.put, List.setIfInBounds_toArray, List.set])
 refine tz 2 ?_
 (try simp only [Act.put, List.setIfInBounds_toArray, List.set])
 refine tz 3 ?_
 (try simp only [Act.put, List.setIfInBounds_toArray, List.set])
 refine tz 4 ?_
 (try simp only [Act.put, List.setIfInBounds_toArray, List.set])
 refine tz 5 ?_
 (try simp only [Act.put, List.setIfInBounds_toArray, List.set])
 refine tz 7 ?_
 (try simp only [Act.put, List.setIfInBounds_toArray, List.set])
 refine tz 8 ?_
 (try simp only [Act.put, List.setIfInBounds_toArray, List.set])
 refine tz 9 ?_
 (try simp only [Act.put, List.setIfInBounds_toArray, List.set])
 refine rz 6 fun K hK => ?_
 go_simp
 go_at_call 64; have hBd := hB.drew; refine (refMake_ex _ _ _ _ (by exact gq)).mono ?_; rintro e w2 ⟨⟨m1, rfl, hm1⟩, hb⟩; replace hb := (Below.refl wa.heap.size wa).drew.trans hb; replace hm1 := Lib.hid hm1; replace xa := xa.on hb; replace xb := xb.on hb; replace xq := xq.on hb; replace xr := xr.on hb; replace gq := gq.on hb; replace gr := gr.on hb; replace hB := hB.trans (hb.mono hB.size); have hz2 := hb.size
 (try go_wp2_with fail)
 refine hK.out _ _ (⟨(hb.cell (p := ⟨w.heap.size, 0, none⟩) qa).trans hR0.1, (hb.cell (p := ⟨w.heap.size, 1, none⟩) qa).trans hR0.2.1, (hb.cell (p := ⟨w.heap.size + 1, 0, none⟩) qb).trans hR0.2.2.1, (hb.cell (p := ⟨w.heap.size + 1, 1, none⟩) qb).trans hR0.2.2.2⟩) (fun hR1 => ?_)
 clear hK K hR0
 (try simp only [List.setIfInBounds_toArray, List.set])
 replace qa := Nat.lt_of_lt_of_le qa hz2; replace qb := Nat.lt_of_lt_of_le qb hz2; clear hb hBd
 refine rz 10 fun K hK => ?_
 go_simp
 go_at_call 64; have hBd := hB; refine (refMake_ex _ _ _ _ gr).mono ?_; rintro e w3 ⟨⟨m2, rfl, hm2⟩, hb⟩; replace hm2 := Lib.hid hm2; replace xa := xa.on hb; replace xb := xb.on hb; replace xq := xq.on hb; replace xr := xr.on hb; replace gq := gq.on hb; replace gr := gr.on hb; replace hB := hB.trans (hb.mono hB.size); have hz3 := hb.size
 (try go_wp2_with fail)
 refine hK.out _ _ (⟨(hb.cell (p := ⟨w.heap.size, 0, none⟩) qa).trans hR1.1, (hb.cell (p := ⟨w.heap.size, 1, none⟩) qa).trans hR1.2.1, (hb.cell (p := ⟨w.heap.size + 1, 0, none⟩) qb).trans hR1.2.2.1, (hb.cell (p := ⟨w.heap.size + 1, 1, none⟩) qb).trans hR1.2.2.2⟩) (fun hR2 => ?_)
 clear hK K hR1
 (try simp only [List.setIfInBounds_toArray, List.set])
 replace qa := Nat.lt_of_lt_of_le qa hz3; replace qb := Nat.lt_of_lt_of_le qb hz3; clear hb hBd
 have pq := xq.all2
 refine rz 11 fun K hK => ?_
 go_simp
 refine hK.out _ _ (⟨cell_store hR2.1 (by omega), cell_store hR2.2.1 (by omega), cell_store hR2.2.2.1 (by omega), cell_store hR2.2.2.2 (by omega)⟩) (fun hR3 => ?_)
 clear hK K hR2
 (try simp only [List.setIfInBounds_toArray, List.set])
 clear pq; replace gq := gq.setB xq rfl 0 (.bool m1); replace gr := gr.setB xq rfl 0 (.bool m1); replace xa := xa.put_other (w.heap.size + 1 + 1) 0 (.bool m1) (by omega); replace xb := xb.put_other (w.heap.size + 1 + 1) 0 (.bool m1) (by omega); replace xr := xr.put_other (w.heap.size + 1 + 1) 0 (.bool m1) (by omega)
 replace xq : Bk _ (w.heap.size + 1 + 1) #[.bool m1, .slice none 0 0] _ := xq.put 0 (.bool m1)
 replace hB := hB.setCell (p := ⟨w.heap.size + 1 + 1, 0, none⟩) (by first | omega | (simp; omega) | simp) (.bool m1); replace gq := gq.setB xq rfl 1 (.slice aq (dig (a.natAbs / b.natAbs)).length cq); replace gr := gr.setB xq rfl 1 (.slice aq (dig (a.natAbs / b.natAbs)).length cq); replace xa := xa.put_other (w.heap.size + 1 + 1) 1 (.slice aq (dig (a.natAbs / b.natAbs)).length cq) (by omega); replace xb := xb.put_other (w.heap.size + 1 + 1) 1 (.slice aq (dig (a.natAbs / b.natAbs)).length cq) (by omega); replace xr := xr.put_other (w.heap.size + 1 + 1) 1 (.slice aq (dig (a.natAbs / b.natAbs)).length cq) (by omega)
 replace xq : Bk _ (w.heap.size + 1 + 1) #[.bool m1, .slice aq (dig (a.natAbs / b.natAbs)).length cq] _ := xq.put 1 (.slice aq (dig (a.natAbs / b.natAbs)).length cq)
 replace hB := hB.setCell (p := ⟨w.heap.size + 1 + 1, 1, none⟩) (by first | omega | (simp; omega) | simp) (.slice aq (dig (a.natAbs / b.natAbs)).length cq)
 have pr := xr.all2
 refine rz 12 fun K hK => ?_
 go_simp
 refine hK.out _ _ (⟨cell_store hR3.1 (by omega), cell_store hR3.2.1 (by omega), cell_store hR3.2.2.1 (by omega), cell_store hR3.2.2.2 (by omega)⟩) (fun hR4 => ?_)
 clear hK K hR3
 (try simp only [List.setIfInBounds_toArray, List.set])
 clear pr; replace gq := gq.setB xr rfl 0 (.bool m2); replace gr := gr.setB xr rfl 0 (.bool m2); replace xa := xa.put_other (w.heap.size + 1 + 1 + 1) 0 (.bool m2) (by omega); replace xb := xb.put_other (w.heap.size + 1 + 1 + 1) 0 (.bool m2) (by omega); replace xq := xq.put_other (w.heap.size + 1 + 1 + 1) 0 (.bool m2) (by omega)
 replace xr : Bk _ (w.heap.size + 1 + 1 + 1) #[.bool m2, .slice none 0 0] _ := xr.put 0 (.bool m2)
 replace hB := hB.setCell (p := ⟨w.heap.size + 1 + 1 + 1, 0, none⟩) (by first | omega | (simp; omega) | simp) (.bool m2); replace gq := gq.setB xr rfl 1 (.slice ar 0 cr); replace gr := gr.setB xr rfl 1 (.slice ar 0 cr); replace xa := xa.put_other (w.heap.size + 1 + 1 + 1) 1 (.slice ar 0 cr) (by omega); replace xb := xb.put_other (w.heap.size + 1 + 1 + 1) 1 (.slice ar 0 cr) (by omega); replace xq := xq.put_other (w.heap.size + 1 + 1 + 1) 1 (.slice ar 0 cr) (by omega)
 replace xr : Bk _ (w.heap.size + 1 + 1 + 1) #[.bool m2, .slice ar 0 cr] _ := xr.put 1 (.slice ar 0 cr)
 replace hB := hB.setCell (p := ⟨w.heap.size + 1 + 1 + 1, 1, none⟩) (by first | omega | (simp; omega) | simp) (.slice ar 0 cr)
 refine wpAnyH_done (by kernel_rfl) ?_ _
 refine NoPanic.normal ?_
 clear hR4 qa qb xa xb
 have pq := xq.all2
 have pr := xr.all2
 have ltq := xq.lt
 have ltr := xr.lt
 go_wp2
 clear ltq ltr pq pr
 generalize ((((w3.setCell ⟨w.heap.size + 1 + 1, 0, none⟩ (.bool m1)).setCell ⟨w.heap.size + 1 + 1, 1, none⟩ (.slice aq (dig (a.natAbs / b.natAbs)).length cq)).setCell ⟨w.heap.size + 1 + 1 + 1, 0, none⟩ (.bool m2)).setCell ⟨w.heap.size + 1 + 1 + 1, 1, none⟩ (.slice ar 0 cr)) = WF at *
 have pq := xq.all2
 have pr := xr.all2
 have ltq := xq.lt
 have ltr := xr.lt
 exact bodyPost_ret (v := .tuple #[.agg #[.bool m1, .slice aq (dig (a.natAbs / b.natAbs)).length cq], .agg #[.bool m2, .slice ar 0 cr]]) (by simp [results, Tryz.results141, go_sem, pq, pr]) rfl ⟨⟨_, _, rfl, num_make (by rw [hm1.out, dig_ne]; have h1 := HF.out; rw [h1.2.1, Bool.eq_iff_iff]; simp only [decide_eq_true_eq, Bool.and_eq_true]; exact ⟨fun h => by have := h.2; omega, fun h => ⟨trivial, by omega⟩⟩) HF.out.1 gq, (by rw [HF.out.2.2]; exact num_make (by rw [hm2.out]; rfl) rfl gr)⟩, hB⟩
theorem refFloor_adj (ba : Bool) (aa : Option Addr) (ka ca : Nat) (bb : Bool) (ab : Option Addr) (kb cb : Nat) (a b : Int) (sa : (dig a.natAbs).length ≤ 8192) (sb : (dig b.natAbs).length ≤ 8192) (hb : 0 < b) (ha : a < 0) (h0 : a.natAbs % b.natAbs ≠ 0) (w : World) (na : Num w (.agg #[.bool ba, .slice aa ka ca]) a) (nb : Num w (.agg #[.bool bb, .slice ab kb cb]) b) :
  Calls Tryz.prog 141 #[.agg #[.bool ba, .slice aa ka ca], .agg #[.bool bb, .slice ab kb cb]] w fun e w' => (∃ v1 v2, e = .returned (.tuple #[v1, v2]) ∧ Num w' v1 (a / b) ∧ Num w' v2 (a % b)) ∧ Below w.heap.size w w' := by
 obtain ⟨ea, la⟩ := lim_of_num na
 obtain ⟨eb, lb⟩ := lim_of_num nb
 obtain rfl : bb = false := eb.trans (decide_eq_false (by omega))
 obtain rfl : ba = true := ea.trans (decide_eq_true (by omega))
 have HD := Lib.hid (fun W (hW : Below w.heap.size w W) => refDivided_any (.slice aa ka ca) (.slice ab kb cb) a.natAbs b.natAbs 8192 (by omega) sa sb (Nat.le_refl _) W (la.below hW (Nat.le_refl _)) (lb.below hW (Nat.le_refl _)))
 have hql : (dig (a.natAbs / b.natAbs)).length ≤ 8192 := Nat.le_trans (dig_mono (Nat.div_le_self _ _)) sa
 have HP := Lib.hid (fun v u W (h : Lim W v (dig (a.natAbs / b.natAbs))) (g : Lim W u (dig 1)) => refPlus_any v u (a.natAbs / b.natAbs) 1 8192 hql (by rw [dig1]; decide) (by decide) W h g)
 have HMi := Lib.hid (fun v W (hW : Below w.heap.size w W) (h : Lim W v (dig (a.natAbs % b.natAbs))) => refMinus_any (.slice ab kb cb) v b.natAbs (a.natAbs % b.natAbs) (Nat.le_of_lt (Nat.mod_lt _ (by omega))) (Nat.le_trans sb (by decide)) W (lb.below hW (Nat.le_refl _)) h)
 clear hql
 have HF := Lib.hid (floor_adj hb ha h0)
 have hrl : 0 < ((dig (a.natAbs % b.natAbs)).length : Int) := by have h2 := List.length_pos_iff.2 (show dig (a.natAbs % b.natAbs) ≠ [] from fun e => by have := (dig_nil_iff _).1 e; omega); omega
 clear h0 ea eb la lb na nb sa sb hb ha
 have hB := Below.refl w.heap.size w
 obtain ⟨al, xa, hN⟩ := mk hB #[.bool true, .slice aa ka ca] 24
 replace hB := hN; clear al hN
 try simp only [World.size_alloc] at xa
 obtain ⟨al, xb, hN⟩ := mk hB #[.bool false, .slice ab kb cb] 24
 replace xa := xa.on al; replace hB := hN; clear al hN
 try simp only [World.size_alloc] at xb
 obtain ⟨al, xq, hN⟩ := mk hB #[.bool false, .slice none 0 0] 24
 replace xa := xa.on al; replace xb := xb.on al; replace hB := hN; clear al hN
 try simp only [World.size_alloc] at xq
 obtain ⟨al, xr, hN⟩ := mk hB #[.bool false, .slice none 0 0] 24
 replace xa := xa.on al; replace xb := xb.on al; replace xq := xq.on al; replace hB := hN; clear al hN
 try simp only [World.size_alloc] at xr
 go_enter Tryz.func141, Tryz.ntmps141
 have pa := xa.all2
 have pb := xb.all2
 have pq := xq.all2
 have pr := xr.all2
 have lta := xa.lt
 have ltb := xb.lt
 have ltq := xq.lt
 have ltr := xr.lt
 go_wp2_with fail
 clear lta ltb ltq ltr pa pb pq pr
 refine (HD.out _ hB).mono ?_
 rintro e w1 ⟨⟨vq, vr, rfl, gq, gr⟩, hb⟩
 obtain ⟨aq, cq, rfl⟩ := lim_slice gq
 obtain ⟨ar, cr, rfl⟩ := lim_slice gr
 replace xa := xa.on hb; replace xb := xb.on hb; replace xq := xq.on hb; replace xr := xr.on hb
 have hz1 := hb.size
 try simp at hz1
 replace hB := hB.trans (hb.mono hB.size); clear hb
 have pa := xa.all2
 have pb := xb.all2
 have pq := xq.all2
 have pr := xr.all2
 have lta := xa.lt
 have ltb := xb.lt
 have ltq := xq.lt
 have ltr := xr.lt
 go_wp2_with fail
 clear lta ltb ltq ltr pa pb pq pr
 have g1 := (one_limb w1 1).1
 rw [show ([1] : List Nat) = dig 1 from dig1.symm] at g1
 obtain ⟨al, xo, hN⟩ := mk hB #[.int .u16 1] 59
 replace xa := xa.on al; replace xb := xb.on al; replace xq := xq.on al; replace xr := xr.on al; replace gq := gq.on al; replace gr := gr.on al; replace hB := hN; clear al hN
 try simp only [World.size_alloc] at xo
 refine (HP.out _ _ _ gq g1).mono ?_
 rintro e w2 ⟨⟨v2, rfl, gq2⟩, hb⟩
 clear gq g1 xo; replace xa := xa.on hb; replace xb := xb.on hb; replace xq := xq.on hb; replace xr := xr.on hb; replace gr := gr.on hb; replace hB := hB.trans (hb.mono hB.size); clear hb
 have gq := gq2.1
 clear gq2
 obtain ⟨aq2, cq2, rfl⟩ := lim_slice gq
 have pa := xa.all2
 have pb := xb.all2
 have pq := xq.all2
 have pr := xr.all2
 have lta := xa.lt
 have ltb := xb.lt
 have ltq := xq.lt
 have ltr := xr.lt
 go_wp2_with fail
 clear lta ltb ltq ltr pa pb pq pr
 refine (HMi.out _ _ hB gr).mono ?_
 rintro e w3 ⟨⟨v3, rfl, gr2⟩, hb⟩
 have gs := gr2.1
 clear gr2 gr
 obtain ⟨ar2, cr2, rfl⟩ := lim_slice gs
 replace xa := xa.on hb; replace xb := xb.on hb; replace xq := xq.on hb; replace xr := xr.on hb; replace gq := gq.on hb
 have hz3 := hb.size
 try simp at hz3
 replace hB := hB.trans (hb.mono hB.size); clear hb
 have pa := xa.all2
 have pb := xb.all2
 have pq := xq.all2
 have pr := xr.all2
 have lta := xa.lt
 have ltb := xb.lt
 have ltq := xq.lt
 have ltr := xr.lt
 go_wp2_with fail
 clear lta ltb ltq ltr pa pb pq pr
 obtain ⟨wa, hwa⟩ : ∃ W, W = w3 := ⟨_, rfl⟩
 rw [← hwa] at hB xa xb xq xr gq gs ⊢
 clear hwa hrl
 have qa := xa.lt
 have qb := xb.lt
 obtain ⟨ga0, ga1⟩ := xa.cells2
 obtain ⟨gb0, gb1⟩ := xb.cells2
 refine wp_region_noPanic ?_
 refine wp_region_held_drew (S := (fun w' => w'.cell? ⟨w.heap.size, 0, none⟩ = some (.bool true) ∧ w'.cell? ⟨w.heap.size, 1, none⟩ = some (.slice aa ka ca) ∧ w'.cell? ⟨w.heap.size + 1, 0, none⟩ = some (.bool false) ∧ w'.cell? ⟨w.heap.size + 1, 1, none⟩ = some (.slice ab kb cb))) (by kernel_rfl) ⟨ga0, ga1, gb0, gb1⟩ (fun hR0 => ?_)
 change wpAnyH _ _ _ _ _ 13 #[false, false, false, false, false, false, false, false, false, false, false, false, false] _ _
 clear ga0 ga1 gb0 gb1
 refine tz 0 ?_
 (try simp only [Act.put, List.setIfInBounds_toArray, List.set])
 refine tz 1 ?_
 (try simp only [Act.put, List.setIfInBounds_toArray, List.set])
 refine tz 2 ?_
 (try simp only [Act.put, List.setIfInBounds_toArray, List.set])
 refine tz 3 ?_
 (try simp only [Act.put, List.setIfInBounds_toArray, List.set])
 refine tz 4 ?_
 (try simp only [Act.put, List.setIfInBounds_toArray, List.set])
 refine tz 5 ?_
 (try simp only [Act.put, List.setIfInBounds_toArray, List.set])
 refine tz 7 ?_
 (try simp only [Act.put, List.setIfInBounds_toArray, List.set])
 refine tz 8 ?_
 (try simp only [Act.put, List.setIfInBounds_toArray, List.set])
 refine tz 9 ?_
 (try simp only [Act.put, List.setIfInBounds_toArray, List.set])
 refine rz 6 fun K hK => ?_
 go_simp
 go_at_call 64; have hBd := hB.drew; refine (refMake_ex _ _ _ _ (by exact gq)).mono ?_; rintro e w4 ⟨⟨m1, rfl, hm1⟩, hb⟩; replace hb := (Below.refl wa.heap.size wa).drew.trans hb; replace hm1 := Lib.hid hm1; replace xa := xa.on hb; replace xb := xb.on hb; replace xq := xq.on hb; replace xr := xr.on hb; replace gq := gq.on hb; replace gs := gs.on hb; replace hB := hB.trans (hb.mono hB.size); have hz4 := hb.size
 (try go_wp2_with fail)
 refine hK.out _ _ (⟨(hb.cell (p := ⟨w.heap.size, 0, none⟩) qa).trans hR0.1, (hb.cell (p := ⟨w.heap.size, 1, none⟩) qa).trans hR0.2.1, (hb.cell (p := ⟨w.heap.size + 1, 0, none⟩) qb).trans hR0.2.2.1, (hb.cell (p := ⟨w.heap.size + 1, 1, none⟩) qb).trans hR0.2.2.2⟩) (fun hR1 => ?_)
 clear hK K hR0
 (try simp only [List.setIfInBounds_toArray, List.set])
 replace qa := Nat.lt_of_lt_of_le qa hz4; replace qb := Nat.lt_of_lt_of_le qb hz4; clear hb hBd
 refine rz 10 fun K hK => ?_
 go_simp
 go_at_call 64; have hBd := hB; refine (refMake_ex _ _ _ _ gs).mono ?_; rintro e w5 ⟨⟨m2, rfl, hm2⟩, hb⟩; replace hm2 := Lib.hid hm2; replace xa := xa.on hb; replace xb := xb.on hb; replace xq := xq.on hb; replace xr := xr.on hb; replace gq := gq.on hb; replace gs := gs.on hb; replace hB := hB.trans (hb.mono hB.size); have hz5 := hb.size
 (try go_wp2_with fail)
 refine hK.out _ _ (⟨(hb.cell (p := ⟨w.heap.size, 0, none⟩) qa).trans hR1.1, (hb.cell (p := ⟨w.heap.size, 1, none⟩) qa).trans hR1.2.1, (hb.cell (p := ⟨w.heap.size + 1, 0, none⟩) qb).trans hR1.2.2.1, (hb.cell (p := ⟨w.heap.size + 1, 1, none⟩) qb).trans hR1.2.2.2⟩) (fun hR2 => ?_)
 clear hK K hR1
 (try simp only [List.setIfInBounds_toArray, List.set])
 replace qa := Nat.lt_of_lt_of_le qa hz5; replace qb := Nat.lt_of_lt_of_le qb hz5; clear hb hBd
 have pq := xq.all2
 refine rz 11 fun K hK => ?_
 go_simp
 refine hK.out _ _ (⟨cell_store hR2.1 (by omega), cell_store hR2.2.1 (by omega), cell_store hR2.2.2.1 (by omega), cell_store hR2.2.2.2 (by omega)⟩) (fun hR3 => ?_)
 clear hK K hR2
 (try simp only [List.setIfInBounds_toArray, List.set])
 clear pq; replace gq := gq.setB xq rfl 0 (.bool m1); replace gs := gs.setB xq rfl 0 (.bool m1); replace xa := xa.put_other (w.heap.size + 1 + 1) 0 (.bool m1) (by omega); replace xb := xb.put_other (w.heap.size + 1 + 1) 0 (.bool m1) (by omega); replace xr := xr.put_other (w.heap.size + 1 + 1) 0 (.bool m1) (by omega)
 replace xq : Bk _ (w.heap.size + 1 + 1) #[.bool m1, .slice none 0 0] _ := xq.put 0 (.bool m1)
 replace hB := hB.setCell (p := ⟨w.heap.size + 1 + 1, 0, none⟩) (by first | omega | (simp; omega) | simp) (.bool m1); replace gq := gq.setB xq rfl 1 (.slice aq2 (dig (a.natAbs / b.natAbs + 1)).length cq2); replace gs := gs.setB xq rfl 1 (.slice aq2 (dig (a.natAbs / b.natAbs + 1)).length cq2); replace xa := xa.put_other (w.heap.size + 1 + 1) 1 (.slice aq2 (dig (a.natAbs / b.natAbs + 1)).length cq2) (by omega); replace xb := xb.put_other (w.heap.size + 1 + 1) 1 (.slice aq2 (dig (a.natAbs / b.natAbs + 1)).length cq2) (by omega); replace xr := xr.put_other (w.heap.size + 1 + 1) 1 (.slice aq2 (dig (a.natAbs / b.natAbs + 1)).length cq2) (by omega)
 replace xq : Bk _ (w.heap.size + 1 + 1) #[.bool m1, .slice aq2 (dig (a.natAbs / b.natAbs + 1)).length cq2] _ := xq.put 1 (.slice aq2 (dig (a.natAbs / b.natAbs + 1)).length cq2)
 replace hB := hB.setCell (p := ⟨w.heap.size + 1 + 1, 1, none⟩) (by first | omega | (simp; omega) | simp) (.slice aq2 (dig (a.natAbs / b.natAbs + 1)).length cq2)
 have pr := xr.all2
 refine rz 12 fun K hK => ?_
 go_simp
 refine hK.out _ _ (⟨cell_store hR3.1 (by omega), cell_store hR3.2.1 (by omega), cell_store hR3.2.2.1 (by omega), cell_store hR3.2.2.2 (by omega)⟩) (fun hR4 => ?_)
 clear hK K hR3
 (try simp only [List.setIfInBounds_toArray, List.set])
 clear pr; replace gq := gq.setB xr rfl 0 (.bool m2); replace gs := gs.setB xr rfl 0 (.bool m2); replace xa := xa.put_other (w.heap.size + 1 + 1 + 1) 0 (.bool m2) (by omega); replace xb := xb.put_other (w.heap.size + 1 + 1 + 1) 0 (.bool m2) (by omega); replace xq := xq.put_other (w.heap.size + 1 + 1 + 1) 0 (.bool m2) (by omega)
 replace xr : Bk _ (w.heap.size + 1 + 1 + 1) #[.bool m2, .slice none 0 0] _ := xr.put 0 (.bool m2)
 replace hB := hB.setCell (p := ⟨w.heap.size + 1 + 1 + 1, 0, none⟩) (by first | omega | (simp; omega) | simp) (.bool m2); replace gq := gq.setB xr rfl 1 (.slice ar2 (dig (b.natAbs - a.natAbs % b.natAbs)).length cr2); replace gs := gs.setB xr rfl 1 (.slice ar2 (dig (b.natAbs - a.natAbs % b.natAbs)).length cr2); replace xa := xa.put_other (w.heap.size + 1 + 1 + 1) 1 (.slice ar2 (dig (b.natAbs - a.natAbs % b.natAbs)).length cr2) (by omega); replace xb := xb.put_other (w.heap.size + 1 + 1 + 1) 1 (.slice ar2 (dig (b.natAbs - a.natAbs % b.natAbs)).length cr2) (by omega); replace xq := xq.put_other (w.heap.size + 1 + 1 + 1) 1 (.slice ar2 (dig (b.natAbs - a.natAbs % b.natAbs)).length cr2) (by omega)
 replace xr : Bk _ (w.heap.size + 1 + 1 + 1) #[.bool m2, .slice ar2 (dig (b.natAbs - a.natAbs % b.natAbs)).length cr2] _ := xr.put 1 (.slice ar2 (dig (b.natAbs - a.natAbs % b.natAbs)).length cr2)
 replace hB := hB.setCell (p := ⟨w.heap.size + 1 + 1 + 1, 1, none⟩) (by first | omega | (simp; omega) | simp) (.slice ar2 (dig (b.natAbs - a.natAbs % b.natAbs)).length cr2)
 refine wpAnyH_done (by kernel_rfl) ?_ _
 refine NoPanic.normal ?_
 clear hR4 qa qb xa xb
 have pq := xq.all2
 have pr := xr.all2
 have ltq := xq.lt
 have ltr := xr.lt
 go_wp2
 clear ltq ltr pq pr
 generalize ((((w5.setCell ⟨w.heap.size + 1 + 1, 0, none⟩ (.bool m1)).setCell ⟨w.heap.size + 1 + 1, 1, none⟩ (.slice aq2 (dig (a.natAbs / b.natAbs + 1)).length cq2)).setCell ⟨w.heap.size + 1 + 1 + 1, 0, none⟩ (.bool m2)).setCell ⟨w.heap.size + 1 + 1 + 1, 1, none⟩ (.slice ar2 (dig (b.natAbs - a.natAbs % b.natAbs)).length cr2)) = WF at *
 have pq := xq.all2
 have pr := xr.all2
 have ltq := xq.lt
 have ltr := xr.lt
 exact bodyPost_ret (v := .tuple #[.agg #[.bool m1, .slice aq2 (dig (a.natAbs / b.natAbs + 1)).length cq2], .agg #[.bool m2, .slice ar2 (dig (b.natAbs - a.natAbs % b.natAbs)).length cr2]]) (by simp [results, Tryz.results141, go_sem, pq, pr]) rfl ⟨⟨_, _, rfl, num_make (by rw [hm1.out, dig_ne]; have h1 := HF.out; rw [decide_eq_true h1.2.1, decide_eq_true (by omega)]; rfl) HF.out.1 gq, num_make (by rw [hm2.out]; exact (decide_eq_false (by have := HF.out; omega)).symm) HF.out.2.2.1 gs⟩, hB⟩
theorem refOrder_num (va vb : Value) (a b : Int) (sa : (dig a.natAbs).length ≤ 16384) (sb : (dig b.natAbs).length ≤ 16384) (w : World) (h : Num w va a) (g : Num w vb b) : Calls Tryz.prog 91 #[va, vb] w fun e w' => e = .returned (.int .i64 (cmpI a b)) ∧ Below w.heap.size w w' := by
 obtain ⟨b1, x, k, c, rfl⟩ := h.opened
 obtain ⟨b2, y, l, d, rfl⟩ := g.opened
 exact refOrder_raw b1 x k c b2 y l d a b sa sb w h g
theorem refFloor_num (va vb : Value) (a b : Int) (sa : (dig a.natAbs).length ≤ 8192) (sb : (dig b.natAbs).length ≤ 8192) (hb : 0 < b) (w : World) (h : Num w va a) (g : Num w vb b) : Calls Tryz.prog 141 #[va, vb] w fun e w' => (∃ v1 v2, e = .returned (.tuple #[v1, v2]) ∧ Num w' v1 (a / b) ∧ Num w' v2 (a % b)) ∧ Below w.heap.size w w' := by
  obtain ⟨b1, x, k, c, rfl⟩ := h.opened
  obtain ⟨b2, y, l, d, rfl⟩ := g.opened
  rcases Int.lt_or_le a 0 with ha | ha
  · by_cases h0 : a.natAbs % b.natAbs = 0
    · exact refFloor_zero b1 x k c b2 y l d a b sa sb hb ha h0 w h g
    · exact refFloor_adj b1 x k c b2 y l d a b sa sb hb ha h0 w h g
  · exact refFloor_pos b1 x k c b2 y l d a b sa sb hb ha w h g
theorem refValid_any (b : Bool) (s : Value) (l : List Nat) (w : World) (h : Lim w s l) :
    Calls Tryz.prog 8 #[.agg #[.bool b, s]] w fun e w' => e = .returned (.bool (vld b l)) ∧ Below w.heap.size w w' := by
  obtain ⟨a, cap, rfl, hlc, ⟨hcm, hcl, hcn⟩, hcs⟩ := id h
  clear hcn
  by_cases hl : l = []
  · subst hl
    go_enter Tryz.func8, Tryz.ntmps8
    go_wp2
    go_ret
    exact ⟨by simp [vld], (Below.refl _ _).alloc (Nat.le_refl _) _⟩
  · have h0 : (0 : Int) < (l.length : Int) := by have := List.length_pos_iff.2 hl; omega
    have h1 : ((l.length : Int) == 0) = false := by simp; exact hl
    rcases hcs with hcs | ⟨bk, off, rfl, hc⟩
    · exact absurd hcs hl
    · have hlast := hc (l.length - 1) (by omega)
      have hbl : bk < w.heap.size := lt_of_cell hlast
      by_cases hlen : l.length ≤ 1024
      · have h2 : (l.length : Int) ≤ 1024 := by omega
        have e1 : off + (l.length - 1) = off + ((l.length : Int) - 1).toNat := by omega
        rw [e1] at hlast
        go_enter Tryz.func8, Tryz.ntmps8
        go_wp2
        go_ret
        have e3 : vld b l = (((l[l.length - 1]?.getD 0 : Nat) : Int) != 0) := by
          unfold vld
          rw [if_neg hl, decide_eq_true hlen, Bool.true_and, Bool.eq_iff_iff]
          simp
        exact ⟨by rw [e3]; rfl, (Below.refl _ _).alloc (Nat.le_refl _) _⟩
      · have h2 : ¬ (l.length : Int) ≤ 1024 := by omega
        go_enter Tryz.func8, Tryz.ntmps8
        go_wp2
        go_ret
        have e3 : vld b l = false := by
          unfold vld
          rw [if_neg hl, decide_eq_false hlen, Bool.false_and]
        exact ⟨by rw [e3]; rfl, (Below.refl _ _).alloc (Nat.le_refl _) _⟩
end Go.Proofs.YtmbcnfogjncdaaaGreat
