/- A part of the proofs about fractions. -/
import Derived.Test.YtmbcnfogjncdaaaGreatQFr1
import Derived.Test.YtmbcnfogjncdaaaGreatQFr19
import Derived.Test.YtmbcnfogjncdaaaGreatQFr27
set_option maxRecDepth 100000
set_option maxHeartbeats 8000000
namespace Go.Proofs.YtmbcnfogjncdaaaGreat
open Go.RowKit Wh
section
variable {P : Program} {md : Region.Mode} {ops : Array Oper} {Q : Exit → Act → World → Prop} {S : World → Prop}
theorem rd3 {i j l : Nat} {o o2 o3 : Oper} {r r2 r3 : List Oper} {fuel : Nat} {listed : Array Bool} {a : Act} {w : World} (hr : Region.ready md ops listed = [i, j, l]) (ho : ops.toList.drop i = o :: r) (ho2 : ops.toList.drop j = o2 :: r2) (ho3 : ops.toList.drop l = o3 :: r3)
  (h : ∀ K' : Act → World → Prop, Shut (∀ a w, S w → (S w → wpAnyH P md ops Q S fuel (listed.setIfInBounds i true) a w) → K' a w) → if Region.wanted o (yielded ops a.tmps) = true then Oper.wp P o a w K' Q else K' (a.put o.dst undef) w)
  (h2 : ∀ K' : Act → World → Prop, Shut (∀ a w, S w → (S w → wpAnyH P md ops Q S fuel (listed.setIfInBounds j true) a w) → K' a w) → if Region.wanted o2 (yielded ops a.tmps) = true then Oper.wp P o2 a w K' Q else K' (a.put o2.dst undef) w)
  (h3 : ∀ K' : Act → World → Prop, Shut (∀ a w, S w → (S w → wpAnyH P md ops Q S fuel (listed.setIfInBounds l true) a w) → K' a w) → if Region.wanted o3 (yielded ops a.tmps) = true then Oper.wp P o3 a w K' Q else K' (a.put o3.dst undef) w) :
  wpAnyH P md ops Q S (fuel + 1) listed a w := wpAnyH_ready hr (by simp) (AllReadyH.cons (drop_get ho) h (AllReadyH.cons (drop_get ho2) h2 (AllReadyH.cons (drop_get ho3) h3 AllReadyH.nil)))
end
def At2 (W wx : World) (v v' : Value) (z z' : Int) : Prop := ∃ A b a k c A' b' a' k' c', v = .pointer (some ⟨A, 0, none⟩) ∧ v' = .pointer (some ⟨A', 0, none⟩) ∧ Bk wx A #[.bool b, .slice a k c] 24 ∧ Bk wx A' #[.bool b', .slice a' k' c'] 24 ∧
 Num wx (.agg #[.bool b, .slice a k c]) z ∧ Num wx (.agg #[.bool b', .slice a' k' c']) z' ∧ A ≠ A' ∧ W.heap.size ≤ A ∧ W.heap.size ≤ A' ∧ Below W.heap.size W wx
theorem rup5_lt {neg : Bool} {r2 d k : Int} (h : r2 < d) : rup 5 neg r2 d k = false := by
 show (decide (d < r2) || (decide (r2 = d) && !neg)) = false
 rw [decide_eq_false (by omega), decide_eq_false (by omega)]; rfl
theorem rup5_eq {neg : Bool} {r2 d k : Int} (h : r2 = d) : rup 5 neg r2 d k = !neg := by
 show (decide (d < r2) || (decide (r2 = d) && !neg)) = !neg
 rw [decide_eq_false (by omega), decide_eq_true h, Bool.false_or, Bool.true_and]
theorem rup5_gt {neg : Bool} {r2 d k : Int} (h : d < r2) : rup 5 neg r2 d k = true := by
 show (decide (d < r2) || (decide (r2 = d) && !neg)) = true
 rw [decide_eq_true h]; rfl
theorem rup6_lt {neg : Bool} {r2 d k : Int} (h : r2 < d) : rup 6 neg r2 d k = false := by
 show (decide (d < r2) || (decide (r2 = d) && decide (k % 2 = 1))) = false
 rw [decide_eq_false (by omega), decide_eq_false (by omega)]; rfl
theorem rup6_eq {neg : Bool} {r2 d k : Int} (h : r2 = d) : rup 6 neg r2 d k = decide (k % 2 = 1) := by
 show (decide (d < r2) || (decide (r2 = d) && decide (k % 2 = 1))) = decide (k % 2 = 1)
 rw [decide_eq_false (by omega), decide_eq_true h, Bool.false_or, Bool.true_and]
theorem rup6_gt {neg : Bool} {r2 d k : Int} (h : d < r2) : rup 6 neg r2 d k = true := by
 show (decide (d < r2) || (decide (r2 = d) && decide (k % 2 = 1))) = true
 rw [decide_eq_true h]; rfl
theorem rfac_exact {neg : Bool} {n d : Int} {m : Nat} (h : n % d = 0) : rfac neg n d m = n / d := by unfold rfac; rw [if_pos h]
theorem rfac_up {neg : Bool} {n d : Int} {m : Nat} (h : ¬ n % d = 0) (hr : rup m neg (n % d + n % d) d (n / d) = true) : rfac neg n d m = n / d + 1 := by unfold rfac; rw [if_neg h, hr]; rfl
theorem rfac_down {neg : Bool} {n d : Int} {m : Nat} (h : ¬ n % d = 0) (hr : rup m neg (n % d + n % d) d (n / d) = false) : rfac neg n d m = n / d := by unfold rfac; rw [if_neg h, hr]; rfl
theorem refFactor_any (bx : Bool) (ax : Option Addr) (kx cx : Nat) (dx : Bool) (ex : Option Addr) (lx mx : Nat) (bv : Bool) (av : Option Addr) (kv cv : Nat) (dv : Bool) (ev : Option Addr) (lv mv : Nat) (q u : Rat) (sq : Fz 256 256 q) (su : Fz 256 256 u) (hu : 0 < u.num) (m : Nat) (hm1 : 1 ≤ m) (hm6 : m ≤ 6) (w : World) (hx : Fra w (.agg #[.bool bx, .slice ax kx cx, .bool dx, .slice ex lx mx]) q) (hv : Fra w (.agg #[.bool bv, .slice av kv cv, .bool dv, .slice ev lv mv]) u) :
  Calls Tryz.prog 119 #[.agg #[.bool bx, .slice ax kx cx, .bool dx, .slice ex lx mx], .agg #[.bool bv, .slice av kv cv, .bool dv, .slice ev lv mv], .int .u8 (m : Int)] w fun e w' => (∃ v, e = .returned v ∧ Num w' v (rfac (decide (q.num < 0)) (q.num * u.den) ((q.den : Int) * u.num) m)) ∧ Below w.heap.size w w' := by
 obtain ⟨en, -, gxn, gxd⟩ := fra_nums hx
 obtain ⟨-, -, gvn, gvd⟩ := fra_nums hv
 have hD : 0 < (q.den : Int) * u.num := Int.mul_pos (Fq.den_pos q) hu
 have sN : Sz 512 (q.num * u.den) := Sz.mul sq.1 su.2
 have sD : Sz 512 ((q.den : Int) * u.num) := Sz.mul sq.2 su.1
 have HP1 := Lib.hid (fun va vb W (h : Num W va (q.den : Int)) (g : Num W vb u.num) => refProduct_num va vb (q.den : Int) u.num (Nat.le_trans sq.2 (by decide)) (Nat.le_trans su.1 (by decide)) W h g)
 have HP2 := Lib.hid (fun va vb W (h : Num W va q.num) (g : Num W vb (u.den : Int)) => refProduct_num va vb q.num (u.den : Int) (Nat.le_trans sq.1 (by decide)) (Nat.le_trans su.2 (by decide)) W h g)
 generalize hNN : q.num * (u.den : Int) = N at *
 generalize hDD : (q.den : Int) * u.num = D at *
 clear hNN hDD
 have HFl := Lib.hid (fun va vb W (h : Num W va N) (g : Num W vb D) => refFloor_num va vb N D (Nat.le_trans sN (by decide)) (Nat.le_trans sD (by decide)) hD W h g)
 have HI := Lib.hid (fun W => refFromInt_num 1 (by decide) (by decide) W)
 have hk : (N / D).natAbs ≤ N.natAbs := Int.natAbs_ediv_le_natAbs N D
 have hkl : (dig (N / D).natAbs).length ≤ 512 := Nat.le_trans (dig_mono hk) sN
 have hr0 := Int.emod_nonneg N (show D ≠ 0 by omega)
 have hr1 := Int.emod_lt_of_pos N hD
 have hrl : (dig (N % D).natAbs).length ≤ 512 := Nat.le_trans (dig_mono (by omega)) sD
 have HSm := Lib.hid (fun va vb W (h : Num W va (N / D)) (g : Num W vb 1) => refSum_num va vb (N / D) 1 (Nat.le_trans hkl (by decide)) (by decide +kernel) W h g)
 have HS2 := Lib.hid (fun va vb W (h : Num W va (N % D)) (g : Num W vb (N % D)) => refSum_num va vb (N % D) (N % D) (Nat.le_trans hrl (by decide)) (Nat.le_trans hrl (by decide)) W h g)
 have hr2 : (dig (N % D + N % D).natAbs).length ≤ 513 := dig_two (A := D.natAbs) (by omega) sD
 have HOr := Lib.hid (fun va vb W (h : Num W va (N % D + N % D)) (g : Num W vb D) => refOrder_num va vb (N % D + N % D) D (Nat.le_trans hr2 (by decide)) (Nat.le_trans sD (by decide)) W h g)
 have hneg : bx = decide (q.num < 0) := en
 generalize decide (q.num < 0) = neg at *
 subst hneg
 clear sN sD hk hkl hrl hr2 hr0 hr1 hD sq su hu hx hv
 have hB := Below.refl w.heap.size w
 obtain ⟨al, xx, hN⟩ := mk hB #[.bool bx, .slice ax kx cx, .bool dx, .slice ex lx mx] 39
 replace gxn := gxn.on al; replace gxd := gxd.on al; replace gvn := gvn.on al; replace gvd := gvd.on al; replace hB := hN; clear al hN
 try simp only [World.size_alloc] at xx
 obtain ⟨al, xv, hN⟩ := mk hB #[.bool bv, .slice av kv cv, .bool dv, .slice ev lv mv] 39
 replace xx := xx.on al; replace gxn := gxn.on al; replace gxd := gxd.on al; replace gvn := gvn.on al; replace gvd := gvd.on al; replace hB := hN; clear al hN
 try simp only [World.size_alloc] at xv
 obtain ⟨al, xr, hN⟩ := mk hB #[.bool false, .slice none 0 0] 24
 replace xx := xx.on al; replace xv := xv.on al; replace gxn := gxn.on al; replace gxd := gxd.on al; replace gvn := gvn.on al; replace gvd := gvd.on al; replace hB := hN; clear al hN
 try simp only [World.size_alloc] at xr
 go_enter Tryz.func119, Tryz.ntmps119
 have px := xx.all4
 have pv := xv.all4
 have pr := xr.all2
 have ltx := xx.lt
 have ltv := xv.lt
 have ltr := xr.lt
 go_wp2_with fail
 clear ltx ltv ltr px pv pr
 refine (HP1.out _ _ _ gxd gvn).mono ?_
 rintro e w1 ⟨⟨v1, rfl, gd⟩, hb⟩
 obtain ⟨bd, ad, kd, cd, rfl⟩ := gd.opened
 replace xx := xx.on hb; replace xv := xv.on hb; replace xr := xr.on hb; replace gxn := gxn.on hb; replace gxd := gxd.on hb; replace gvn := gvn.on hb; replace gvd := gvd.on hb
 have hz1 := hb.size
 try simp at hz1
 replace hB := hB.trans (hb.mono hB.size); clear hb
 have px := xx.all4
 have pv := xv.all4
 have pr := xr.all2
 have ltx := xx.lt
 have ltv := xv.lt
 have ltr := xr.lt
 go_wp2_with fail
 clear ltx ltv ltr px pv pr
 have hb := ((Below.refl w1.heap.size w1).alloc (Nat.le_refl _) (.cells #[.bool bd, .slice ad kd cd] 24))
 have xd : Bk _ w1.heap.size #[.bool bd, .slice ad kd cd] 24 := (Bk.new w1 #[.bool bd, .slice ad kd cd] 24)
 replace xx := xx.on hb; replace xv := xv.on hb; replace xr := xr.on hb; replace gxn := gxn.on hb; replace gxd := gxd.on hb; replace gvn := gvn.on hb; replace gvd := gvd.on hb; replace gd := gd.on hb; replace hB := hB.trans (hb.mono hB.size); clear hb
 obtain ⟨wd0, hwd0⟩ : ∃ W, W = (w1.alloc (.cells #[.bool bd, .slice ad kd cd] 24)) := ⟨_, rfl⟩
 rw [← hwd0] at hB xx xv xr xd gxn gxd gvn gvd gd ⊢
 clear hwd0
 go_cut [8, 9] (fun s8 s9 wx => At2 wd0 wx s8 s9 (N / D) (N % D))
 case first =>
  have hM : Below wd0.heap.size wd0 wd0.drew := (Below.refl wd0.heap.size wd0).drew
  obtain ⟨gx0, gx1, gx2, gx3⟩ := xx.cells4
  obtain ⟨gv0, gv1, gv2, gv3⟩ := xv.cells4
  obtain ⟨gd0, gd1⟩ := xd.cells2
  replace gxn := gxn.below hM (Nat.le_refl _); replace gxd := gxd.below hM (Nat.le_refl _); replace gvn := gvn.below hM (Nat.le_refl _); replace gvd := gvd.below hM (Nat.le_refl _); replace gd := gd.below hM (Nat.le_refl _); replace xx := xx.on hM; replace xv := xv.on hM; replace xr := xr.on hM; replace xd := xd.on hM
  refine wp_region_noPanic ?_
  refine wp_region_held_drew (S := (fun w' => (w'.cell? ⟨w.heap.size, 0, none⟩ = some (.bool bx) ∧ w'.cell? ⟨w.heap.size, 1, none⟩ = some (.slice ax kx cx) ∧ w'.cell? ⟨w.heap.size, 2, none⟩ = some (.bool dx) ∧ w'.cell? ⟨w.heap.size, 3, none⟩ = some (.slice ex lx mx)) ∧ (w'.cell? ⟨w.heap.size + 1, 0, none⟩ = some (.bool bv) ∧ w'.cell? ⟨w.heap.size + 1, 1, none⟩ = some (.slice av kv cv) ∧ w'.cell? ⟨w.heap.size + 1, 2, none⟩ = some (.bool dv) ∧ w'.cell? ⟨w.heap.size + 1, 3, none⟩ = some (.slice ev lv mv)) ∧ w'.cell? ⟨w1.heap.size, 0, none⟩ = some (.bool bd) ∧ w'.cell? ⟨w1.heap.size, 1, none⟩ = some (.slice ad kd cd))) (by kernel_rfl) ⟨⟨gx0, gx1, gx2, gx3⟩, ⟨gv0, gv1, gv2, gv3⟩, gd0, gd1⟩ (fun hR0 => ?_)
  change wpAnyH _ _ _ _ _ 14 #[false, false, false, false, false, false, false, false, false, false, false, false, false, false] _ _
  clear gx0 gx1 gx2 gx3 gv0 gv1 gv2 gv3 gd0 gd1
  generalize wd0.drew = wd at *
  have qx := xx.lt
  have qv := xv.lt
  have qd := xd.lt
  refine tz 0 ?_
  (try simp only [Act.put, sa, List.set])
  refine tz 2 ?_
  (try simp only [Act.put, sa, List.set])
  refine tz 5 ?_
  (try simp only [Act.put, sa, List.set])
  refine tz 1 ?_
  (try simp only [Act.put, sa, List.set])
  refine tz 3 ?_
  (try simp only [Act.put, sa, List.set])
  refine rd3 (i := 4) (j := 10) (l := 11) (by kernel_rfl) rfl rfl rfl (fun K hK => ?_) (fun K hK => ?_) (fun K hK => ?_)
  ·
   go_simp
   go_at_call 118; refine (HP2.out _ _ _ gxn gvd).mono ?_; rintro e wc1 ⟨⟨v2, rfl, gn⟩, hb⟩; obtain ⟨bn, an, kn, cn, rfl⟩ := gn.opened; replace xx := xx.on hb; replace xv := xv.on hb; replace xr := xr.on hb; replace xd := xd.on hb; replace gxn := gxn.on hb; replace gxd := gxd.on hb; replace gvn := gvn.on hb; replace gvd := gvd.on hb; replace gd := gd.on hb; replace hM := hM.trans (hb.mono hM.size)
   (try go_wp2_with fail)
   refine hK.out _ _ (⟨keep4 hb qx hR0.1, keep4 hb qv hR0.2.1, (hb.cell (p := ⟨w1.heap.size, 0, none⟩) qd).trans hR0.2.2.1, (hb.cell (p := ⟨w1.heap.size, 1, none⟩) qd).trans hR0.2.2.2⟩) (fun hR1 => ?_)
   clear hK K hR0
   (try simp only [Act.put, sa, List.set])
   clear hb qx qv qd
   have qx := xx.lt
   have qv := xv.lt
   have qd := xd.lt
   refine rd3 (i := 6) (j := 10) (l := 11) (by kernel_rfl) rfl rfl rfl (fun K hK => ?_) (fun K hK => ?_) (fun K hK => ?_)
   ·
    go_simp
    go_at_call 141; refine (HFl.out _ _ _ gn gd).mono ?_; rintro e wc2 ⟨⟨v3, v4, rfl, gk, ge⟩, hb⟩; obtain ⟨bk, ak, kk, ck, rfl⟩ := gk.opened; obtain ⟨be, ae, ke, ce, rfl⟩ := ge.opened; replace xx := xx.on hb; replace xv := xv.on hb; replace xr := xr.on hb; replace xd := xd.on hb; replace gxn := gxn.on hb; replace gxd := gxd.on hb; replace gvn := gvn.on hb; replace gvd := gvd.on hb; replace gd := gd.on hb; replace gn := gn.on hb; replace hM := hM.trans (hb.mono hM.size)
    (try go_wp2_with fail)
    refine hK.out _ _ (⟨keep4 hb qx hR1.1, keep4 hb qv hR1.2.1, (hb.cell (p := ⟨w1.heap.size, 0, none⟩) qd).trans hR1.2.2.1, (hb.cell (p := ⟨w1.heap.size, 1, none⟩) qd).trans hR1.2.2.2⟩) (fun hR2 => ?_)
    clear hK K hR1
    (try simp only [Act.put, sa, List.set])
    clear hb qx qv qd
    have qx := xx.lt
    have qv := xv.lt
    have qd := xd.lt
    refine tz 7 ?_
    (try simp only [Act.put, sa, List.set])
    refine tz 8 ?_
    (try simp only [Act.put, sa, List.set])
    refine tz 9 ?_
    (try simp only [Act.put, sa, List.set])
    refine rd2 (i := 10) (j := 11) (by kernel_rfl) rfl rfl (fun K hK => ?_) (fun K hK => ?_)
    ·
     have nxy : wc2.heap.size ≠ w.heap.size := (by have := xx.lt; omega)
     have nvy : wc2.heap.size ≠ w.heap.size + 1 := (by have := xv.lt; omega)
     have ndy : wc2.heap.size ≠ w1.heap.size := (by have := xd.lt; omega)
     have hb := (Below.refl wc2.heap.size wc2).alloc (Nat.le_refl _) (.cells #[.bool false, .slice none 0 0] 24)
     go_simp
     refine hK.out _ _ (⟨keep4 hb qx hR2.1, keep4 hb qv hR2.2.1, (hb.cell (p := ⟨w1.heap.size, 0, none⟩) qd).trans hR2.2.2.1, (hb.cell (p := ⟨w1.heap.size, 1, none⟩) qd).trans hR2.2.2.2⟩) (fun hR3 => ?_)
     clear hK K hR2
     (try simp only [Act.put, sa, List.set])
     have xy := Bk.new wc2 #[.bool false, .slice none 0 0] 24
     have ly := hM.size
     replace xx := xx.on hb; replace xv := xv.on hb; replace xr := xr.on hb; replace xd := xd.on hb; replace gxn := gxn.on hb; replace gxd := gxd.on hb; replace gvn := gvn.on hb; replace gvd := gvd.on hb; replace gd := gd.on hb; replace gn := gn.on hb; replace gk := gk.on hb; replace ge := ge.on hb; replace hM := hM.trans (hb.mono hM.size); clear hb qx qv qd
     generalize hA : wc2.heap.size = Ay at *
     generalize wc2.alloc (.cells #[.bool false, .slice none 0 0] 24) = wc3 at *
     clear hA
     have qx := xx.lt
     have qv := xv.lt
     have qd := xd.lt
     have nxe : wc3.heap.size ≠ w.heap.size := (by have := xx.lt; omega)
     have nve : wc3.heap.size ≠ w.heap.size + 1 := (by have := xv.lt; omega)
     have nde : wc3.heap.size ≠ w1.heap.size := (by have := xd.lt; omega)
     have mye : Ay ≠ wc3.heap.size := (by have := xy.lt; omega)
     have hb := (Below.refl wc3.heap.size wc3).alloc (Nat.le_refl _) (.cells #[.bool false, .slice none 0 0] 24)
     refine rz 11 fun K hK => ?_
     go_simp
     refine hK.out _ _ (⟨keep4 hb qx hR3.1, keep4 hb qv hR3.2.1, (hb.cell (p := ⟨w1.heap.size, 0, none⟩) qd).trans hR3.2.2.1, (hb.cell (p := ⟨w1.heap.size, 1, none⟩) qd).trans hR3.2.2.2⟩) (fun hR4 => ?_)
     clear hK K hR3
     (try simp only [Act.put, sa, List.set])
     have xe := Bk.new wc3 #[.bool false, .slice none 0 0] 24
     have le := hM.size
     replace xx := xx.on hb; replace xv := xv.on hb; replace xr := xr.on hb; replace xd := xd.on hb; replace xy := xy.on hb; replace gxn := gxn.on hb; replace gxd := gxd.on hb; replace gvn := gvn.on hb; replace gvd := gvd.on hb; replace gd := gd.on hb; replace gn := gn.on hb; replace gk := gk.on hb; replace ge := ge.on hb; replace hM := hM.trans (hb.mono hM.size); clear hb qx qv qd
     generalize hA : wc3.heap.size = Ae at *
     generalize wc3.alloc (.cells #[.bool false, .slice none 0 0] 24) = wc4 at *
     clear hA
     have qx := xx.lt
     have qv := xv.lt
     have qd := xd.lt
     have uc0 := xy.cell 0
     have uf0 := xy.free 0
     have uc1 := xy.cell 1
     have uf1 := xy.free 1
     simp only [List.getElem?_toArray, List.getElem?_cons_zero, List.getElem?_cons_succ] at uc0 uc1
     refine rz 12 fun K hK => ?_
     go_simp
     refine hK.out _ _ (⟨⟨cell_store hR4.1.1 nxy, cell_store hR4.1.2.1 nxy, cell_store hR4.1.2.2.1 nxy, cell_store hR4.1.2.2.2 nxy⟩, ⟨cell_store hR4.2.1.1 nvy, cell_store hR4.2.1.2.1 nvy, cell_store hR4.2.1.2.2.1 nvy, cell_store hR4.2.1.2.2.2 nvy⟩, cell_store hR4.2.2.1 ndy, cell_store hR4.2.2.2 ndy⟩) (fun hR5 => ?_)
     clear hK K hR4
     (try simp only [Act.put, sa, List.set])
     clear uc0 uf0 uc1 uf1; replace xe := xe.put_other Ay 0 (.bool bk) (by omega); replace xe := xe.put_other Ay 1 (.slice ak kk ck) (by omega); replace gxn := (gxn.setB xy rfl 0 (.bool bk)).setB (xy.put 0 (.bool bk)) rfl 1 (.slice ak kk ck); replace gxd := (gxd.setB xy rfl 0 (.bool bk)).setB (xy.put 0 (.bool bk)) rfl 1 (.slice ak kk ck); replace gvn := (gvn.setB xy rfl 0 (.bool bk)).setB (xy.put 0 (.bool bk)) rfl 1 (.slice ak kk ck); replace gvd := (gvd.setB xy rfl 0 (.bool bk)).setB (xy.put 0 (.bool bk)) rfl 1 (.slice ak kk ck); replace gd := (gd.setB xy rfl 0 (.bool bk)).setB (xy.put 0 (.bool bk)) rfl 1 (.slice ak kk ck); replace gn := (gn.setB xy rfl 0 (.bool bk)).setB (xy.put 0 (.bool bk)) rfl 1 (.slice ak kk ck); replace gk := (gk.setB xy rfl 0 (.bool bk)).setB (xy.put 0 (.bool bk)) rfl 1 (.slice ak kk ck); replace ge := (ge.setB xy rfl 0 (.bool bk)).setB (xy.put 0 (.bool bk)) rfl 1 (.slice ak kk ck); replace hM := (hM.setCell (p := ⟨Ay, 0, none⟩) ly (.bool bk)).setCell (p := ⟨Ay, 1, none⟩) ly (.slice ak kk ck)
     replace xy : Bk _ Ay #[.bool bk, .slice ak kk ck] 24 := (xy.put 0 (.bool bk)).put 1 (.slice ak kk ck)
     clear qx qv qd; replace xx := (xx.put_other Ay 0 (.bool bk) (by omega)).put_other Ay 1 (.slice ak kk ck) (by omega); replace xv := (xv.put_other Ay 0 (.bool bk) (by omega)).put_other Ay 1 (.slice ak kk ck) (by omega); replace xd := (xd.put_other Ay 0 (.bool bk) (by omega)).put_other Ay 1 (.slice ak kk ck) (by omega)
     have qx := xx.lt
     have qv := xv.lt
     have qd := xd.lt
     have uc0 := xe.cell 0
     have uf0 := xe.free 0
     have uc1 := xe.cell 1
     have uf1 := xe.free 1
     simp only [List.getElem?_toArray, List.getElem?_cons_zero, List.getElem?_cons_succ] at uc0 uc1
     refine rz 13 fun K hK => ?_
     go_simp
     refine hK.out _ _ (⟨⟨cell_store hR5.1.1 nxe, cell_store hR5.1.2.1 nxe, cell_store hR5.1.2.2.1 nxe, cell_store hR5.1.2.2.2 nxe⟩, ⟨cell_store hR5.2.1.1 nve, cell_store hR5.2.1.2.1 nve, cell_store hR5.2.1.2.2.1 nve, cell_store hR5.2.1.2.2.2 nve⟩, cell_store hR5.2.2.1 nde, cell_store hR5.2.2.2 nde⟩) (fun hR6 => ?_)
     clear hK K hR5
     (try simp only [Act.put, sa, List.set])
     clear uc0 uf0 uc1 uf1; replace xy := xy.put_other Ae 0 (.bool be) (by omega); replace xy := xy.put_other Ae 1 (.slice ae ke ce) (by omega); replace gxn := (gxn.setB xe rfl 0 (.bool be)).setB (xe.put 0 (.bool be)) rfl 1 (.slice ae ke ce); replace gxd := (gxd.setB xe rfl 0 (.bool be)).setB (xe.put 0 (.bool be)) rfl 1 (.slice ae ke ce); replace gvn := (gvn.setB xe rfl 0 (.bool be)).setB (xe.put 0 (.bool be)) rfl 1 (.slice ae ke ce); replace gvd := (gvd.setB xe rfl 0 (.bool be)).setB (xe.put 0 (.bool be)) rfl 1 (.slice ae ke ce); replace gd := (gd.setB xe rfl 0 (.bool be)).setB (xe.put 0 (.bool be)) rfl 1 (.slice ae ke ce); replace gn := (gn.setB xe rfl 0 (.bool be)).setB (xe.put 0 (.bool be)) rfl 1 (.slice ae ke ce); replace gk := (gk.setB xe rfl 0 (.bool be)).setB (xe.put 0 (.bool be)) rfl 1 (.slice ae ke ce); replace ge := (ge.setB xe rfl 0 (.bool be)).setB (xe.put 0 (.bool be)) rfl 1 (.slice ae ke ce); replace hM := (hM.setCell (p := ⟨Ae, 0, none⟩) le (.bool be)).setCell (p := ⟨Ae, 1, none⟩) le (.slice ae ke ce)
     replace xe : Bk _ Ae #[.bool be, .slice ae ke ce] 24 := (xe.put 0 (.bool be)).put 1 (.slice ae ke ce)
     clear qx qv qd; replace xx := (xx.put_other Ae 0 (.bool be) (by omega)).put_other Ae 1 (.slice ae ke ce) (by omega); replace xv := (xv.put_other Ae 0 (.bool be) (by omega)).put_other Ae 1 (.slice ae ke ce) (by omega); replace xd := (xd.put_other Ae 0 (.bool be) (by omega)).put_other Ae 1 (.slice ae ke ce) (by omega)
     have qx := xx.lt
     have qv := xv.lt
     have qd := xd.lt
     refine wpAnyH_done (by kernel_rfl) ?_ _
     refine NoPanic.normal ?_
     clear hR6
     go_wp2_with fail
     go_meet
     exact ⟨_, _, _, _, _, _, _, _, _, _, rfl, rfl, xy, xe, gk, ge, by omega, ly, le, hM⟩
    ·
     have nxe : wc2.heap.size ≠ w.heap.size := (by have := xx.lt; omega)
     have nve : wc2.heap.size ≠ w.heap.size + 1 := (by have := xv.lt; omega)
     have nde : wc2.heap.size ≠ w1.heap.size := (by have := xd.lt; omega)
     have hb := (Below.refl wc2.heap.size wc2).alloc (Nat.le_refl _) (.cells #[.bool false, .slice none 0 0] 24)
     go_simp
     refine hK.out _ _ (⟨keep4 hb qx hR2.1, keep4 hb qv hR2.2.1, (hb.cell (p := ⟨w1.heap.size, 0, none⟩) qd).trans hR2.2.2.1, (hb.cell (p := ⟨w1.heap.size, 1, none⟩) qd).trans hR2.2.2.2⟩) (fun hR3 => ?_)
     clear hK K hR2
     (try simp only [Act.put, sa, List.set])
     have xe := Bk.new wc2 #[.bool false, .slice none 0 0] 24
     have le := hM.size
     replace xx := xx.on hb; replace xv := xv.on hb; replace xr := xr.on hb; replace xd := xd.on hb; replace gxn := gxn.on hb; replace gxd := gxd.on hb; replace gvn := gvn.on hb; replace gvd := gvd.on hb; replace gd := gd.on hb; replace gn := gn.on hb; replace gk := gk.on hb; replace ge := ge.on hb; replace hM := hM.trans (hb.mono hM.size); clear hb qx qv qd
     generalize hA : wc2.heap.size = Ae at *
     generalize wc2.alloc (.cells #[.bool false, .slice none 0 0] 24) = wc5 at *
     clear hA
     have qx := xx.lt
     have qv := xv.lt
     have qd := xd.lt
     have nxy : wc5.heap.size ≠ w.heap.size := (by have := xx.lt; omega)
     have nvy : wc5.heap.size ≠ w.heap.size + 1 := (by have := xv.lt; omega)
     have ndy : wc5.heap.size ≠ w1.heap.size := (by have := xd.lt; omega)
     have mey : Ae ≠ wc5.heap.size := (by have := xe.lt; omega)
     have hb := (Below.refl wc5.heap.size wc5).alloc (Nat.le_refl _) (.cells #[.bool false, .slice none 0 0] 24)
     refine rz 10 fun K hK => ?_
     go_simp
     refine hK.out _ _ (⟨keep4 hb qx hR3.1, keep4 hb qv hR3.2.1, (hb.cell (p := ⟨w1.heap.size, 0, none⟩) qd).trans hR3.2.2.1, (hb.cell (p := ⟨w1.heap.size, 1, none⟩) qd).trans hR3.2.2.2⟩) (fun hR4 => ?_)
     clear hK K hR3
     (try simp only [Act.put, sa, List.set])
     have xy := Bk.new wc5 #[.bool false, .slice none 0 0] 24
     have ly := hM.size
     replace xx := xx.on hb; replace xv := xv.on hb; replace xr := xr.on hb; replace xd := xd.on hb; replace xe := xe.on hb; replace gxn := gxn.on hb; replace gxd := gxd.on hb; replace gvn := gvn.on hb; replace gvd := gvd.on hb; replace gd := gd.on hb; replace gn := gn.on hb; replace gk := gk.on hb; replace ge := ge.on hb; replace hM := hM.trans (hb.mono hM.size); clear hb qx qv qd
     generalize hA : wc5.heap.size = Ay at *
     generalize wc5.alloc (.cells #[.bool false, .slice none 0 0] 24) = wc6 at *
     clear hA
     have qx := xx.lt
     have qv := xv.lt
     have qd := xd.lt
     have uc0 := xy.cell 0
     have uf0 := xy.free 0
     have uc1 := xy.cell 1
     have uf1 := xy.free 1
     simp only [List.getElem?_toArray, List.getElem?_cons_zero, List.getElem?_cons_succ] at uc0 uc1
     refine rz 12 fun K hK => ?_
     go_simp
     refine hK.out _ _ (⟨⟨cell_store hR4.1.1 nxy, cell_store hR4.1.2.1 nxy, cell_store hR4.1.2.2.1 nxy, cell_store hR4.1.2.2.2 nxy⟩, ⟨cell_store hR4.2.1.1 nvy, cell_store hR4.2.1.2.1 nvy, cell_store hR4.2.1.2.2.1 nvy, cell_store hR4.2.1.2.2.2 nvy⟩, cell_store hR4.2.2.1 ndy, cell_store hR4.2.2.2 ndy⟩) (fun hR5 => ?_)
     clear hK K hR4
     (try simp only [Act.put, sa, List.set])
     clear uc0 uf0 uc1 uf1; replace xe := xe.put_other Ay 0 (.bool bk) (by omega); replace xe := xe.put_other Ay 1 (.slice ak kk ck) (by omega); replace gxn := (gxn.setB xy rfl 0 (.bool bk)).setB (xy.put 0 (.bool bk)) rfl 1 (.slice ak kk ck); replace gxd := (gxd.setB xy rfl 0 (.bool bk)).setB (xy.put 0 (.bool bk)) rfl 1 (.slice ak kk ck); replace gvn := (gvn.setB xy rfl 0 (.bool bk)).setB (xy.put 0 (.bool bk)) rfl 1 (.slice ak kk ck); replace gvd := (gvd.setB xy rfl 0 (.bool bk)).setB (xy.put 0 (.bool bk)) rfl 1 (.slice ak kk ck); replace gd := (gd.setB xy rfl 0 (.bool bk)).setB (xy.put 0 (.bool bk)) rfl 1 (.slice ak kk ck); replace gn := (gn.setB xy rfl 0 (.bool bk)).setB (xy.put 0 (.bool bk)) rfl 1 (.slice ak kk ck); replace gk := (gk.setB xy rfl 0 (.bool bk)).setB (xy.put 0 (.bool bk)) rfl 1 (.slice ak kk ck); replace ge := (ge.setB xy rfl 0 (.bool bk)).setB (xy.put 0 (.bool bk)) rfl 1 (.slice ak kk ck); replace hM := (hM.setCell (p := ⟨Ay, 0, none⟩) ly (.bool bk)).setCell (p := ⟨Ay, 1, none⟩) ly (.slice ak kk ck)
     replace xy : Bk _ Ay #[.bool bk, .slice ak kk ck] 24 := (xy.put 0 (.bool bk)).put 1 (.slice ak kk ck)
     clear qx qv qd; replace xx := (xx.put_other Ay 0 (.bool bk) (by omega)).put_other Ay 1 (.slice ak kk ck) (by omega); replace xv := (xv.put_other Ay 0 (.bool bk) (by omega)).put_other Ay 1 (.slice ak kk ck) (by omega); replace xd := (xd.put_other Ay 0 (.bool bk) (by omega)).put_other Ay 1 (.slice ak kk ck) (by omega)
     have qx := xx.lt
     have qv := xv.lt
     have qd := xd.lt
     have uc0 := xe.cell 0
     have uf0 := xe.free 0
     have uc1 := xe.cell 1
     have uf1 := xe.free 1
     simp only [List.getElem?_toArray, List.getElem?_cons_zero, List.getElem?_cons_succ] at uc0 uc1
     refine rz 13 fun K hK => ?_
     go_simp
     refine hK.out _ _ (⟨⟨cell_store hR5.1.1 nxe, cell_store hR5.1.2.1 nxe, cell_store hR5.1.2.2.1 nxe, cell_store hR5.1.2.2.2 nxe⟩, ⟨cell_store hR5.2.1.1 nve, cell_store hR5.2.1.2.1 nve, cell_store hR5.2.1.2.2.1 nve, cell_store hR5.2.1.2.2.2 nve⟩, cell_store hR5.2.2.1 nde, cell_store hR5.2.2.2 nde⟩) (fun hR6 => ?_)
     clear hK K hR5
     (try simp only [Act.put, sa, List.set])
     clear uc0 uf0 uc1 uf1; replace xy := xy.put_other Ae 0 (.bool be) (by omega); replace xy := xy.put_other Ae 1 (.slice ae ke ce) (by omega); replace gxn := (gxn.setB xe rfl 0 (.bool be)).setB (xe.put 0 (.bool be)) rfl 1 (.slice ae ke ce); replace gxd := (gxd.setB xe rfl 0 (.bool be)).setB (xe.put 0 (.bool be)) rfl 1 (.slice ae ke ce); replace gvn := (gvn.setB xe rfl 0 (.bool be)).setB (xe.put 0 (.bool be)) rfl 1 (.slice ae ke ce); replace gvd := (gvd.setB xe rfl 0 (.bool be)).setB (xe.put 0 (.bool be)) rfl 1 (.slice ae ke ce); replace gd := (gd.setB xe rfl 0 (.bool be)).setB (xe.put 0 (.bool be)) rfl 1 (.slice ae ke ce); replace gn := (gn.setB xe rfl 0 (.bool be)).setB (xe.put 0 (.bool be)) rfl 1 (.slice ae ke ce); replace gk := (gk.setB xe rfl 0 (.bool be)).setB (xe.put 0 (.bool be)) rfl 1 (.slice ae ke ce); replace ge := (ge.setB xe rfl 0 (.bool be)).setB (xe.put 0 (.bool be)) rfl 1 (.slice ae ke ce); replace hM := (hM.setCell (p := ⟨Ae, 0, none⟩) le (.bool be)).setCell (p := ⟨Ae, 1, none⟩) le (.slice ae ke ce)
     replace xe : Bk _ Ae #[.bool be, .slice ae ke ce] 24 := (xe.put 0 (.bool be)).put 1 (.slice ae ke ce)
     clear qx qv qd; replace xx := (xx.put_other Ae 0 (.bool be) (by omega)).put_other Ae 1 (.slice ae ke ce) (by omega); replace xv := (xv.put_other Ae 0 (.bool be) (by omega)).put_other Ae 1 (.slice ae ke ce) (by omega); replace xd := (xd.put_other Ae 0 (.bool be) (by omega)).put_other Ae 1 (.slice ae ke ce) (by omega)
     have qx := xx.lt
     have qv := xv.lt
     have qd := xd.lt
     refine wpAnyH_done (by kernel_rfl) ?_ _
     refine NoPanic.normal ?_
     clear hR6
     go_wp2_with fail
     go_meet
     exact ⟨_, _, _, _, _, _, _, _, _, _, rfl, rfl, xy, xe, gk, ge, by omega, ly, le, hM⟩
   ·
    have nxy : wc1.heap.size ≠ w.heap.size := (by have := xx.lt; omega)
    have nvy : wc1.heap.size ≠ w.heap.size + 1 := (by have := xv.lt; omega)
    have ndy : wc1.heap.size ≠ w1.heap.size := (by have := xd.lt; omega)
    have hb := (Below.refl wc1.heap.size wc1).alloc (Nat.le_refl _) (.cells #[.bool false, .slice none 0 0] 24)
    go_simp
    refine hK.out _ _ (⟨keep4 hb qx hR1.1, keep4 hb qv hR1.2.1, (hb.cell (p := ⟨w1.heap.size, 0, none⟩) qd).trans hR1.2.2.1, (hb.cell (p := ⟨w1.heap.size, 1, none⟩) qd).trans hR1.2.2.2⟩) (fun hR2 => ?_)
    clear hK K hR1
    (try simp only [Act.put, sa, List.set])
    have xy := Bk.new wc1 #[.bool false, .slice none 0 0] 24
    have ly := hM.size
    replace xx := xx.on hb; replace xv := xv.on hb; replace xr := xr.on hb; replace xd := xd.on hb; replace gxn := gxn.on hb; replace gxd := gxd.on hb; replace gvn := gvn.on hb; replace gvd := gvd.on hb; replace gd := gd.on hb; replace gn := gn.on hb; replace hM := hM.trans (hb.mono hM.size); clear hb qx qv qd
    generalize hA : wc1.heap.size = Ay at *
    generalize wc1.alloc (.cells #[.bool false, .slice none 0 0] 24) = wc7 at *
    clear hA
    have qx := xx.lt
    have qv := xv.lt
    have qd := xd.lt
    refine rd2 (i := 6) (j := 11) (by kernel_rfl) rfl rfl (fun K hK => ?_) (fun K hK => ?_)
    ·
     go_simp
     go_at_call 141; refine (HFl.out _ _ _ gn gd).mono ?_; rintro e wc8 ⟨⟨v3, v4, rfl, gk, ge⟩, hb⟩; obtain ⟨bk, ak, kk, ck, rfl⟩ := gk.opened; obtain ⟨be, ae, ke, ce, rfl⟩ := ge.opened; replace xx := xx.on hb; replace xv := xv.on hb; replace xr := xr.on hb; replace xd := xd.on hb; replace xy := xy.on hb; replace gxn := gxn.on hb; replace gxd := gxd.on hb; replace gvn := gvn.on hb; replace gvd := gvd.on hb; replace gd := gd.on hb; replace gn := gn.on hb; replace hM := hM.trans (hb.mono hM.size)
     (try go_wp2_with fail)
     refine hK.out _ _ (⟨keep4 hb qx hR2.1, keep4 hb qv hR2.2.1, (hb.cell (p := ⟨w1.heap.size, 0, none⟩) qd).trans hR2.2.2.1, (hb.cell (p := ⟨w1.heap.size, 1, none⟩) qd).trans hR2.2.2.2⟩) (fun hR3 => ?_)
     clear hK K hR2
     (try simp only [Act.put, sa, List.set])
     clear hb qx qv qd
     have qx := xx.lt
     have qv := xv.lt
     have qd := xd.lt
     refine tz 7 ?_
     (try simp only [Act.put, sa, List.set])
     refine tz 8 ?_
     (try simp only [Act.put, sa, List.set])
     refine tz 9 ?_
     (try simp only [Act.put, sa, List.set])
     have nxe : wc8.heap.size ≠ w.heap.size := (by have := xx.lt; omega)
     have nve : wc8.heap.size ≠ w.heap.size + 1 := (by have := xv.lt; omega)
     have nde : wc8.heap.size ≠ w1.heap.size := (by have := xd.lt; omega)
     have mye : Ay ≠ wc8.heap.size := (by have := xy.lt; omega)
     have hb := (Below.refl wc8.heap.size wc8).alloc (Nat.le_refl _) (.cells #[.bool false, .slice none 0 0] 24)
     refine rz 11 fun K hK => ?_
     go_simp
     refine hK.out _ _ (⟨keep4 hb qx hR3.1, keep4 hb qv hR3.2.1, (hb.cell (p := ⟨w1.heap.size, 0, none⟩) qd).trans hR3.2.2.1, (hb.cell (p := ⟨w1.heap.size, 1, none⟩) qd).trans hR3.2.2.2⟩) (fun hR4 => ?_)
     clear hK K hR3
     (try simp only [Act.put, sa, List.set])
     have xe := Bk.new wc8 #[.bool false, .slice none 0 0] 24
     have le := hM.size
     replace xx := xx.on hb; replace xv := xv.on hb; replace xr := xr.on hb; replace xd := xd.on hb; replace xy := xy.on hb; replace gxn := gxn.on hb; replace gxd := gxd.on hb; replace gvn := gvn.on hb; replace gvd := gvd.on hb; replace gd := gd.on hb; replace gn := gn.on hb; replace gk := gk.on hb; replace ge := ge.on hb; replace hM := hM.trans (hb.mono hM.size); clear hb qx qv qd
     generalize hA : wc8.heap.size = Ae at *
     generalize wc8.alloc (.cells #[.bool false, .slice none 0 0] 24) = wc9 at *
     clear hA
     have qx := xx.lt
     have qv := xv.lt
     have qd := xd.lt
     have uc0 := xy.cell 0
     have uf0 := xy.free 0
     have uc1 := xy.cell 1
     have uf1 := xy.free 1
     simp only [List.getElem?_toArray, List.getElem?_cons_zero, List.getElem?_cons_succ] at uc0 uc1
     refine rz 12 fun K hK => ?_
     go_simp
     refine hK.out _ _ (⟨⟨cell_store hR4.1.1 nxy, cell_store hR4.1.2.1 nxy, cell_store hR4.1.2.2.1 nxy, cell_store hR4.1.2.2.2 nxy⟩, ⟨cell_store hR4.2.1.1 nvy, cell_store hR4.2.1.2.1 nvy, cell_store hR4.2.1.2.2.1 nvy, cell_store hR4.2.1.2.2.2 nvy⟩, cell_store hR4.2.2.1 ndy, cell_store hR4.2.2.2 ndy⟩) (fun hR5 => ?_)
     clear hK K hR4
     (try simp only [Act.put, sa, List.set])
     clear uc0 uf0 uc1 uf1; replace xe := xe.put_other Ay 0 (.bool bk) (by omega); replace xe := xe.put_other Ay 1 (.slice ak kk ck) (by omega); replace gxn := (gxn.setB xy rfl 0 (.bool bk)).setB (xy.put 0 (.bool bk)) rfl 1 (.slice ak kk ck); replace gxd := (gxd.setB xy rfl 0 (.bool bk)).setB (xy.put 0 (.bool bk)) rfl 1 (.slice ak kk ck); replace gvn := (gvn.setB xy rfl 0 (.bool bk)).setB (xy.put 0 (.bool bk)) rfl 1 (.slice ak kk ck); replace gvd := (gvd.setB xy rfl 0 (.bool bk)).setB (xy.put 0 (.bool bk)) rfl 1 (.slice ak kk ck); replace gd := (gd.setB xy rfl 0 (.bool bk)).setB (xy.put 0 (.bool bk)) rfl 1 (.slice ak kk ck); replace gn := (gn.setB xy rfl 0 (.bool bk)).setB (xy.put 0 (.bool bk)) rfl 1 (.slice ak kk ck); replace gk := (gk.setB xy rfl 0 (.bool bk)).setB (xy.put 0 (.bool bk)) rfl 1 (.slice ak kk ck); replace ge := (ge.setB xy rfl 0 (.bool bk)).setB (xy.put 0 (.bool bk)) rfl 1 (.slice ak kk ck); replace hM := (hM.setCell (p := ⟨Ay, 0, none⟩) ly (.bool bk)).setCell (p := ⟨Ay, 1, none⟩) ly (.slice ak kk ck)
     replace xy : Bk _ Ay #[.bool bk, .slice ak kk ck] 24 := (xy.put 0 (.bool bk)).put 1 (.slice ak kk ck)
     clear qx qv qd; replace xx := (xx.put_other Ay 0 (.bool bk) (by omega)).put_other Ay 1 (.slice ak kk ck) (by omega); replace xv := (xv.put_other Ay 0 (.bool bk) (by omega)).put_other Ay 1 (.slice ak kk ck) (by omega); replace xd := (xd.put_other Ay 0 (.bool bk) (by omega)).put_other Ay 1 (.slice ak kk ck) (by omega)
     have qx := xx.lt
     have qv := xv.lt
     have qd := xd.lt
     have uc0 := xe.cell 0
     have uf0 := xe.free 0
     have uc1 := xe.cell 1
     have uf1 := xe.free 1
     simp only [List.getElem?_toArray, List.getElem?_cons_zero, List.getElem?_cons_succ] at uc0 uc1
     refine rz 13 fun K hK => ?_
     go_simp
     refine hK.out _ _ (⟨⟨cell_store hR5.1.1 nxe, cell_store hR5.1.2.1 nxe, cell_store hR5.1.2.2.1 nxe, cell_store hR5.1.2.2.2 nxe⟩, ⟨cell_store hR5.2.1.1 nve, cell_store hR5.2.1.2.1 nve, cell_store hR5.2.1.2.2.1 nve, cell_store hR5.2.1.2.2.2 nve⟩, cell_store hR5.2.2.1 nde, cell_store hR5.2.2.2 nde⟩) (fun hR6 => ?_)
     clear hK K hR5
     (try simp only [Act.put, sa, List.set])
     clear uc0 uf0 uc1 uf1; replace xy := xy.put_other Ae 0 (.bool be) (by omega); replace xy := xy.put_other Ae 1 (.slice ae ke ce) (by omega); replace gxn := (gxn.setB xe rfl 0 (.bool be)).setB (xe.put 0 (.bool be)) rfl 1 (.slice ae ke ce); replace gxd := (gxd.setB xe rfl 0 (.bool be)).setB (xe.put 0 (.bool be)) rfl 1 (.slice ae ke ce); replace gvn := (gvn.setB xe rfl 0 (.bool be)).setB (xe.put 0 (.bool be)) rfl 1 (.slice ae ke ce); replace gvd := (gvd.setB xe rfl 0 (.bool be)).setB (xe.put 0 (.bool be)) rfl 1 (.slice ae ke ce); replace gd := (gd.setB xe rfl 0 (.bool be)).setB (xe.put 0 (.bool be)) rfl 1 (.slice ae ke ce); replace gn := (gn.setB xe rfl 0 (.bool be)).setB (xe.put 0 (.bool be)) rfl 1 (.slice ae ke ce); replace gk := (gk.setB xe rfl 0 (.bool be)).setB (xe.put 0 (.bool be)) rfl 1 (.slice ae ke ce); replace ge := (ge.setB xe rfl 0 (.bool be)).setB (xe.put 0 (.bool be)) rfl 1 (.slice ae ke ce); replace hM := (hM.setCell (p := ⟨Ae, 0, none⟩) le (.bool be)).setCell (p := ⟨Ae, 1, none⟩) le (.slice ae ke ce)
     replace xe : Bk _ Ae #[.bool be, .slice ae ke ce] 24 := (xe.put 0 (.bool be)).put 1 (.slice ae ke ce)
     clear qx qv qd; replace xx := (xx.put_other Ae 0 (.bool be) (by omega)).put_other Ae 1 (.slice ae ke ce) (by omega); replace xv := (xv.put_other Ae 0 (.bool be) (by omega)).put_other Ae 1 (.slice ae ke ce) (by omega); replace xd := (xd.put_other Ae 0 (.bool be) (by omega)).put_other Ae 1 (.slice ae ke ce) (by omega)
     have qx := xx.lt
     have qv := xv.lt
     have qd := xd.lt
     refine wpAnyH_done (by kernel_rfl) ?_ _
     refine NoPanic.normal ?_
     clear hR6
     go_wp2_with fail
     go_meet
     exact ⟨_, _, _, _, _, _, _, _, _, _, rfl, rfl, xy, xe, gk, ge, by omega, ly, le, hM⟩
    ·
     have nxe : wc7.heap.size ≠ w.heap.size := (by have := xx.lt; omega)
     have nve : wc7.heap.size ≠ w.heap.size + 1 := (by have := xv.lt; omega)
     have nde : wc7.heap.size ≠ w1.heap.size := (by have := xd.lt; omega)
     have mye : Ay ≠ wc7.heap.size := (by have := xy.lt; omega)
     have hb := (Below.refl wc7.heap.size wc7).alloc (Nat.le_refl _) (.cells #[.bool false, .slice none 0 0] 24)
     go_simp
     refine hK.out _ _ (⟨keep4 hb qx hR2.1, keep4 hb qv hR2.2.1, (hb.cell (p := ⟨w1.heap.size, 0, none⟩) qd).trans hR2.2.2.1, (hb.cell (p := ⟨w1.heap.size, 1, none⟩) qd).trans hR2.2.2.2⟩) (fun hR3 => ?_)
     clear hK K hR2
     (try simp only [Act.put, sa, List.set])
     have xe := Bk.new wc7 #[.bool false, .slice none 0 0] 24
     have le := hM.size
     replace xx := xx.on hb; replace xv := xv.on hb; replace xr := xr.on hb; replace xd := xd.on hb; replace xy := xy.on hb; replace gxn := gxn.on hb; replace gxd := gxd.on hb; replace gvn := gvn.on hb; replace gvd := gvd.on hb; replace gd := gd.on hb; replace gn := gn.on hb; replace hM := hM.trans (hb.mono hM.size); clear hb qx qv qd
     generalize hA : wc7.heap.size = Ae at *
     generalize wc7.alloc (.cells #[.bool false, .slice none 0 0] 24) = wc10 at *
     clear hA
     have qx := xx.lt
     have qv := xv.lt
     have qd := xd.lt
     refine rz 6 fun K hK => ?_
     go_simp
     go_at_call 141; refine (HFl.out _ _ _ gn gd).mono ?_; rintro e wc11 ⟨⟨v3, v4, rfl, gk, ge⟩, hb⟩; obtain ⟨bk, ak, kk, ck, rfl⟩ := gk.opened; obtain ⟨be, ae, ke, ce, rfl⟩ := ge.opened; replace xx := xx.on hb; replace xv := xv.on hb; replace xr := xr.on hb; replace xd := xd.on hb; replace xy := xy.on hb; replace xe := xe.on hb; replace gxn := gxn.on hb; replace gxd := gxd.on hb; replace gvn := gvn.on hb; replace gvd := gvd.on hb; replace gd := gd.on hb; replace gn := gn.on hb; replace hM := hM.trans (hb.mono hM.size)
     (try go_wp2_with fail)
     refine hK.out _ _ (⟨keep4 hb qx hR3.1, keep4 hb qv hR3.2.1, (hb.cell (p := ⟨w1.heap.size, 0, none⟩) qd).trans hR3.2.2.1, (hb.cell (p := ⟨w1.heap.size, 1, none⟩) qd).trans hR3.2.2.2⟩) (fun hR4 => ?_)
     clear hK K hR3
     (try simp only [Act.put, sa, List.set])
     clear hb qx qv qd
     have qx := xx.lt
     have qv := xv.lt
     have qd := xd.lt
     refine tz 7 ?_
     (try simp only [Act.put, sa, List.set])
     refine tz 8 ?_
     (try simp only [Act.put, sa, List.set])
     refine tz 9 ?_
     (try simp only [Act.put, sa, List.set])
     have uc0 := xy.cell 0
     have uf0 := xy.free 0
     have uc1 := xy.cell 1
     have uf1 := xy.free 1
     simp only [List.getElem?_toArray, List.getElem?_cons_zero, List.getElem?_cons_succ] at uc0 uc1
     refine rz 12 fun K hK => ?_
     go_simp
     refine hK.out _ _ (⟨⟨cell_store hR4.1.1 nxy, cell_store hR4.1.2.1 nxy, cell_store hR4.1.2.2.1 nxy, cell_store hR4.1.2.2.2 nxy⟩, ⟨cell_store hR4.2.1.1 nvy, cell_store hR4.2.1.2.1 nvy, cell_store hR4.2.1.2.2.1 nvy, cell_store hR4.2.1.2.2.2 nvy⟩, cell_store hR4.2.2.1 ndy, cell_store hR4.2.2.2 ndy⟩) (fun hR5 => ?_)
     clear hK K hR4
     (try simp only [Act.put, sa, List.set])
     clear uc0 uf0 uc1 uf1; replace xe := xe.put_other Ay 0 (.bool bk) (by omega); replace xe := xe.put_other Ay 1 (.slice ak kk ck) (by omega); replace gxn := (gxn.setB xy rfl 0 (.bool bk)).setB (xy.put 0 (.bool bk)) rfl 1 (.slice ak kk ck); replace gxd := (gxd.setB xy rfl 0 (.bool bk)).setB (xy.put 0 (.bool bk)) rfl 1 (.slice ak kk ck); replace gvn := (gvn.setB xy rfl 0 (.bool bk)).setB (xy.put 0 (.bool bk)) rfl 1 (.slice ak kk ck); replace gvd := (gvd.setB xy rfl 0 (.bool bk)).setB (xy.put 0 (.bool bk)) rfl 1 (.slice ak kk ck); replace gd := (gd.setB xy rfl 0 (.bool bk)).setB (xy.put 0 (.bool bk)) rfl 1 (.slice ak kk ck); replace gn := (gn.setB xy rfl 0 (.bool bk)).setB (xy.put 0 (.bool bk)) rfl 1 (.slice ak kk ck); replace gk := (gk.setB xy rfl 0 (.bool bk)).setB (xy.put 0 (.bool bk)) rfl 1 (.slice ak kk ck); replace ge := (ge.setB xy rfl 0 (.bool bk)).setB (xy.put 0 (.bool bk)) rfl 1 (.slice ak kk ck); replace hM := (hM.setCell (p := ⟨Ay, 0, none⟩) ly (.bool bk)).setCell (p := ⟨Ay, 1, none⟩) ly (.slice ak kk ck)
     replace xy : Bk _ Ay #[.bool bk, .slice ak kk ck] 24 := (xy.put 0 (.bool bk)).put 1 (.slice ak kk ck)
     clear qx qv qd; replace xx := (xx.put_other Ay 0 (.bool bk) (by omega)).put_other Ay 1 (.slice ak kk ck) (by omega); replace xv := (xv.put_other Ay 0 (.bool bk) (by omega)).put_other Ay 1 (.slice ak kk ck) (by omega); replace xd := (xd.put_other Ay 0 (.bool bk) (by omega)).put_other Ay 1 (.slice ak kk ck) (by omega)
     have qx := xx.lt
     have qv := xv.lt
     have qd := xd.lt
     have uc0 := xe.cell 0
     have uf0 := xe.free 0
     have uc1 := xe.cell 1
     have uf1 := xe.free 1
     simp only [List.getElem?_toArray, List.getElem?_cons_zero, List.getElem?_cons_succ] at uc0 uc1
     refine rz 13 fun K hK => ?_
     go_simp
     refine hK.out _ _ (⟨⟨cell_store hR5.1.1 nxe, cell_store hR5.1.2.1 nxe, cell_store hR5.1.2.2.1 nxe, cell_store hR5.1.2.2.2 nxe⟩, ⟨cell_store hR5.2.1.1 nve, cell_store hR5.2.1.2.1 nve, cell_store hR5.2.1.2.2.1 nve, cell_store hR5.2.1.2.2.2 nve⟩, cell_store hR5.2.2.1 nde, cell_store hR5.2.2.2 nde⟩) (fun hR6 => ?_)
     clear hK K hR5
     (try simp only [Act.put, sa, List.set])
     clear uc0 uf0 uc1 uf1; replace xy := xy.put_other Ae 0 (.bool be) (by omega); replace xy := xy.put_other Ae 1 (.slice ae ke ce) (by omega); replace gxn := (gxn.setB xe rfl 0 (.bool be)).setB (xe.put 0 (.bool be)) rfl 1 (.slice ae ke ce); replace gxd := (gxd.setB xe rfl 0 (.bool be)).setB (xe.put 0 (.bool be)) rfl 1 (.slice ae ke ce); replace gvn := (gvn.setB xe rfl 0 (.bool be)).setB (xe.put 0 (.bool be)) rfl 1 (.slice ae ke ce); replace gvd := (gvd.setB xe rfl 0 (.bool be)).setB (xe.put 0 (.bool be)) rfl 1 (.slice ae ke ce); replace gd := (gd.setB xe rfl 0 (.bool be)).setB (xe.put 0 (.bool be)) rfl 1 (.slice ae ke ce); replace gn := (gn.setB xe rfl 0 (.bool be)).setB (xe.put 0 (.bool be)) rfl 1 (.slice ae ke ce); replace gk := (gk.setB xe rfl 0 (.bool be)).setB (xe.put 0 (.bool be)) rfl 1 (.slice ae ke ce); replace ge := (ge.setB xe rfl 0 (.bool be)).setB (xe.put 0 (.bool be)) rfl 1 (.slice ae ke ce); replace hM := (hM.setCell (p := ⟨Ae, 0, none⟩) le (.bool be)).setCell (p := ⟨Ae, 1, none⟩) le (.slice ae ke ce)
     replace xe : Bk _ Ae #[.bool be, .slice ae ke ce] 24 := (xe.put 0 (.bool be)).put 1 (.slice ae ke ce)
     clear qx qv qd; replace xx := (xx.put_other Ae 0 (.bool be) (by omega)).put_other Ae 1 (.slice ae ke ce) (by omega); replace xv := (xv.put_other Ae 0 (.bool be) (by omega)).put_other Ae 1 (.slice ae ke ce) (by omega); replace xd := (xd.put_other Ae 0 (.bool be) (by omega)).put_other Ae 1 (.slice ae ke ce) (by omega)
     have qx := xx.lt
     have qv := xv.lt
     have qd := xd.lt
     refine wpAnyH_done (by kernel_rfl) ?_ _
     refine NoPanic.normal ?_
     clear hR6
     go_wp2_with fail
     go_meet
     exact ⟨_, _, _, _, _, _, _, _, _, _, rfl, rfl, xy, xe, gk, ge, by omega, ly, le, hM⟩
   ·
    have nxe : wc1.heap.size ≠ w.heap.size := (by have := xx.lt; omega)
    have nve : wc1.heap.size ≠ w.heap.size + 1 := (by have := xv.lt; omega)
    have nde : wc1.heap.size ≠ w1.heap.size := (by have := xd.lt; omega)
    have hb := (Below.refl wc1.heap.size wc1).alloc (Nat.le_refl _) (.cells #[.bool false, .slice none 0 0] 24)
    go_simp
    refine hK.out _ _ (⟨keep4 hb qx hR1.1, keep4 hb qv hR1.2.1, (hb.cell (p := ⟨w1.heap.size, 0, none⟩) qd).trans hR1.2.2.1, (hb.cell (p := ⟨w1.heap.size, 1, none⟩) qd).trans hR1.2.2.2⟩) (fun hR2 => ?_)
    clear hK K hR1
    (try simp only [Act.put, sa, List.set])
    have xe := Bk.new wc1 #[.bool false, .slice none 0 0] 24
    have le := hM.size
    replace xx := xx.on hb; replace xv := xv.on hb; replace xr := xr.on hb; replace xd := xd.on hb; replace gxn := gxn.on hb; replace gxd := gxd.on hb; replace gvn := gvn.on hb; replace gvd := gvd.on hb; replace gd := gd.on hb; replace gn := gn.on hb; replace hM := hM.trans (hb.mono hM.size); clear hb qx qv qd
    generalize hA : wc1.heap.size = Ae at *
    generalize wc1.alloc (.cells #[.bool false, .slice none 0 0] 24) = wc12 at *
    clear hA
    have qx := xx.lt
    have qv := xv.lt
    have qd := xd.lt
    refine rd2 (i := 6) (j := 10) (by kernel_rfl) rfl rfl (fun K hK => ?_) (fun K hK => ?_)
    ·
     go_simp
     go_at_call 141; refine (HFl.out _ _ _ gn gd).mono ?_; rintro e wc13 ⟨⟨v3, v4, rfl, gk, ge⟩, hb⟩; obtain ⟨bk, ak, kk, ck, rfl⟩ := gk.opened; obtain ⟨be, ae, ke, ce, rfl⟩ := ge.opened; replace xx := xx.on hb; replace xv := xv.on hb; replace xr := xr.on hb; replace xd := xd.on hb; replace xe := xe.on hb; replace gxn := gxn.on hb; replace gxd := gxd.on hb; replace gvn := gvn.on hb; replace gvd := gvd.on hb; replace gd := gd.on hb; replace gn := gn.on hb; replace hM := hM.trans (hb.mono hM.size)
     (try go_wp2_with fail)
     refine hK.out _ _ (⟨keep4 hb qx hR2.1, keep4 hb qv hR2.2.1, (hb.cell (p := ⟨w1.heap.size, 0, none⟩) qd).trans hR2.2.2.1, (hb.cell (p := ⟨w1.heap.size, 1, none⟩) qd).trans hR2.2.2.2⟩) (fun hR3 => ?_)
     clear hK K hR2
     (try simp only [Act.put, sa, List.set])
     clear hb qx qv qd
     have qx := xx.lt
     have qv := xv.lt
     have qd := xd.lt
     refine tz 7 ?_
     (try simp only [Act.put, sa, List.set])
     refine tz 8 ?_
     (try simp only [Act.put, sa, List.set])
     refine tz 9 ?_
     (try simp only [Act.put, sa, List.set])
     have nxy : wc13.heap.size ≠ w.heap.size := (by have := xx.lt; omega)
     have nvy : wc13.heap.size ≠ w.heap.size + 1 := (by have := xv.lt; omega)
     have ndy : wc13.heap.size ≠ w1.heap.size := (by have := xd.lt; omega)
     have mey : Ae ≠ wc13.heap.size := (by have := xe.lt; omega)
     have hb := (Below.refl wc13.heap.size wc13).alloc (Nat.le_refl _) (.cells #[.bool false, .slice none 0 0] 24)
     refine rz 10 fun K hK => ?_
     go_simp
     refine hK.out _ _ (⟨keep4 hb qx hR3.1, keep4 hb qv hR3.2.1, (hb.cell (p := ⟨w1.heap.size, 0, none⟩) qd).trans hR3.2.2.1, (hb.cell (p := ⟨w1.heap.size, 1, none⟩) qd).trans hR3.2.2.2⟩) (fun hR4 => ?_)
     clear hK K hR3
     (try simp only [Act.put, sa, List.set])
     have xy := Bk.new wc13 #[.bool false, .slice none 0 0] 24
     have ly := hM.size
     replace xx := xx.on hb; replace xv := xv.on hb; replace xr := xr.on hb; replace xd := xd.on hb; replace xe := xe.on hb; replace gxn := gxn.on hb; replace gxd := gxd.on hb; replace gvn := gvn.on hb; replace gvd := gvd.on hb; replace gd := gd.on hb; replace gn := gn.on hb; replace gk := gk.on hb; replace ge := ge.on hb; replace hM := hM.trans (hb.mono hM.size); clear hb qx qv qd
     generalize hA : wc13.heap.size = Ay at *
     generalize wc13.alloc (.cells #[.bool false, .slice none 0 0] 24) = wc14 at *
     clear hA
     have qx := xx.lt
     have qv := xv.lt
     have qd := xd.lt
     have uc0 := xy.cell 0
     have uf0 := xy.free 0
     have uc1 := xy.cell 1
     have uf1 := xy.free 1
     simp only [List.getElem?_toArray, List.getElem?_cons_zero, List.getElem?_cons_succ] at uc0 uc1
     refine rz 12 fun K hK => ?_
     go_simp
     refine hK.out _ _ (⟨⟨cell_store hR4.1.1 nxy, cell_store hR4.1.2.1 nxy, cell_store hR4.1.2.2.1 nxy, cell_store hR4.1.2.2.2 nxy⟩, ⟨cell_store hR4.2.1.1 nvy, cell_store hR4.2.1.2.1 nvy, cell_store hR4.2.1.2.2.1 nvy, cell_store hR4.2.1.2.2.2 nvy⟩, cell_store hR4.2.2.1 ndy, cell_store hR4.2.2.2 ndy⟩) (fun hR5 => ?_)
     clear hK K hR4
     (try simp only [Act.put, sa, List.set])
     clear uc0 uf0 uc1 uf1; replace xe := xe.put_other Ay 0 (.bool bk) (by omega); replace xe := xe.put_other Ay 1 (.slice ak kk ck) (by omega); replace gxn := (gxn.setB xy rfl 0 (.bool bk)).setB (xy.put 0 (.bool bk)) rfl 1 (.slice ak kk ck); replace gxd := (gxd.setB xy rfl 0 (.bool bk)).setB (xy.put 0 (.bool bk)) rfl 1 (.slice ak kk ck); replace gvn := (gvn.setB xy rfl 0 (.bool bk)).setB (xy.put 0 (.bool bk)) rfl 1 (.slice ak kk ck); replace gvd := (gvd.setB xy rfl 0 (.bool bk)).setB (xy.put 0 (.bool bk)) rfl 1 (.slice ak kk ck); replace gd := (gd.setB xy rfl 0 (.bool bk)).setB (xy.put 0 (.bool bk)) rfl 1 (.slice ak kk ck); replace gn := (gn.setB xy rfl 0 (.bool bk)).setB (xy.put 0 (.bool bk)) rfl 1 (.slice ak kk ck); replace gk := (gk.setB xy rfl 0 (.bool bk)).setB (xy.put 0 (.bool bk)) rfl 1 (.slice ak kk ck); replace ge := (ge.setB xy rfl 0 (.bool bk)).setB (xy.put 0 (.bool bk)) rfl 1 (.slice ak kk ck); replace hM := (hM.setCell (p := ⟨Ay, 0, none⟩) ly (.bool bk)).setCell (p := ⟨Ay, 1, none⟩) ly (.slice ak kk ck)
     replace xy : Bk _ Ay #[.bool bk, .slice ak kk ck] 24 := (xy.put 0 (.bool bk)).put 1 (.slice ak kk ck)
     clear qx qv qd; replace xx := (xx.put_other Ay 0 (.bool bk) (by omega)).put_other Ay 1 (.slice ak kk ck) (by omega); replace xv := (xv.put_other Ay 0 (.bool bk) (by omega)).put_other Ay 1 (.slice ak kk ck) (by omega); replace xd := (xd.put_other Ay 0 (.bool bk) (by omega)).put_other Ay 1 (.slice ak kk ck) (by omega)
     have qx := xx.lt
     have qv := xv.lt
     have qd := xd.lt
     have uc0 := xe.cell 0
     have uf0 := xe.free 0
     have uc1 := xe.cell 1
     have uf1 := xe.free 1
     simp only [List.getElem?_toArray, List.getElem?_cons_zero, List.getElem?_cons_succ] at uc0 uc1
     refine rz 13 fun K hK => ?_
     go_simp
     refine hK.out _ _ (⟨⟨cell_store hR5.1.1 nxe, cell_store hR5.1.2.1 nxe, cell_store hR5.1.2.2.1 nxe, cell_store hR5.1.2.2.2 nxe⟩, ⟨cell_store hR5.2.1.1 nve, cell_store hR5.2.1.2.1 nve, cell_store hR5.2.1.2.2.1 nve, cell_store hR5.2.1.2.2.2 nve⟩, cell_store hR5.2.2.1 nde, cell_store hR5.2.2.2 nde⟩) (fun hR6 => ?_)
     clear hK K hR5
     (try simp only [Act.put, sa, List.set])
     clear uc0 uf0 uc1 uf1; replace xy := xy.put_other Ae 0 (.bool be) (by omega); replace xy := xy.put_other Ae 1 (.slice ae ke ce) (by omega); replace gxn := (gxn.setB xe rfl 0 (.bool be)).setB (xe.put 0 (.bool be)) rfl 1 (.slice ae ke ce); replace gxd := (gxd.setB xe rfl 0 (.bool be)).setB (xe.put 0 (.bool be)) rfl 1 (.slice ae ke ce); replace gvn := (gvn.setB xe rfl 0 (.bool be)).setB (xe.put 0 (.bool be)) rfl 1 (.slice ae ke ce); replace gvd := (gvd.setB xe rfl 0 (.bool be)).setB (xe.put 0 (.bool be)) rfl 1 (.slice ae ke ce); replace gd := (gd.setB xe rfl 0 (.bool be)).setB (xe.put 0 (.bool be)) rfl 1 (.slice ae ke ce); replace gn := (gn.setB xe rfl 0 (.bool be)).setB (xe.put 0 (.bool be)) rfl 1 (.slice ae ke ce); replace gk := (gk.setB xe rfl 0 (.bool be)).setB (xe.put 0 (.bool be)) rfl 1 (.slice ae ke ce); replace ge := (ge.setB xe rfl 0 (.bool be)).setB (xe.put 0 (.bool be)) rfl 1 (.slice ae ke ce); replace hM := (hM.setCell (p := ⟨Ae, 0, none⟩) le (.bool be)).setCell (p := ⟨Ae, 1, none⟩) le (.slice ae ke ce)
     replace xe : Bk _ Ae #[.bool be, .slice ae ke ce] 24 := (xe.put 0 (.bool be)).put 1 (.slice ae ke ce)
     clear qx qv qd; replace xx := (xx.put_other Ae 0 (.bool be) (by omega)).put_other Ae 1 (.slice ae ke ce) (by omega); replace xv := (xv.put_other Ae 0 (.bool be) (by omega)).put_other Ae 1 (.slice ae ke ce) (by omega); replace xd := (xd.put_other Ae 0 (.bool be) (by omega)).put_other Ae 1 (.slice ae ke ce) (by omega)
     have qx := xx.lt
     have qv := xv.lt
     have qd := xd.lt
     refine wpAnyH_done (by kernel_rfl) ?_ _
     refine NoPanic.normal ?_
     clear hR6
     go_wp2_with fail
     go_meet
     exact ⟨_, _, _, _, _, _, _, _, _, _, rfl, rfl, xy, xe, gk, ge, by omega, ly, le, hM⟩
    ·
     have nxy : wc12.heap.size ≠ w.heap.size := (by have := xx.lt; omega)
     have nvy : wc12.heap.size ≠ w.heap.size + 1 := (by have := xv.lt; omega)
     have ndy : wc12.heap.size ≠ w1.heap.size := (by have := xd.lt; omega)
     have mey : Ae ≠ wc12.heap.size := (by have := xe.lt; omega)
     have hb := (Below.refl wc12.heap.size wc12).alloc (Nat.le_refl _) (.cells #[.bool false, .slice none 0 0] 24)
     go_simp
     refine hK.out _ _ (⟨keep4 hb qx hR2.1, keep4 hb qv hR2.2.1, (hb.cell (p := ⟨w1.heap.size, 0, none⟩) qd).trans hR2.2.2.1, (hb.cell (p := ⟨w1.heap.size, 1, none⟩) qd).trans hR2.2.2.2⟩) (fun hR3 => ?_)
     clear hK K hR2
     (try simp only [Act.put, sa, List.set])
     have xy := Bk.new wc12 #[.bool false, .slice none 0 0] 24
     have ly := hM.size
     replace xx := xx.on hb; replace xv := xv.on hb; replace xr := xr.on hb; replace xd := xd.on hb; replace xe := xe.on hb; replace gxn := gxn.on hb; replace gxd := gxd.on hb; replace gvn := gvn.on hb; replace gvd := gvd.on hb; replace gd := gd.on hb; replace gn := gn.on hb; replace hM := hM.trans (hb.mono hM.size); clear hb qx qv qd
     generalize hA : wc12.heap.size = Ay at *
     generalize wc12.alloc (.cells #[.bool false, .slice none 0 0] 24) = wc15 at *
     clear hA
     have qx := xx.lt
     have qv := xv.lt
     have qd := xd.lt
     refine rz 6 fun K hK => ?_
     go_simp
     go_at_call 141; refine (HFl.out _ _ _ gn gd).mono ?_; rintro e wc16 ⟨⟨v3, v4, rfl, gk, ge⟩, hb⟩; obtain ⟨bk, ak, kk, ck, rfl⟩ := gk.opened; obtain ⟨be, ae, ke, ce, rfl⟩ := ge.opened; replace xx := xx.on hb; replace xv := xv.on hb; replace xr := xr.on hb; replace xd := xd.on hb; replace xe := xe.on hb; replace xy := xy.on hb; replace gxn := gxn.on hb; replace gxd := gxd.on hb; replace gvn := gvn.on hb; replace gvd := gvd.on hb; replace gd := gd.on hb; replace gn := gn.on hb; replace hM := hM.trans (hb.mono hM.size)
     (try go_wp2_with fail)
     refine hK.out _ _ (⟨keep4 hb qx hR3.1, keep4 hb qv hR3.2.1, (hb.cell (p := ⟨w1.heap.size, 0, none⟩) qd).trans hR3.2.2.1, (hb.cell (p := ⟨w1.heap.size, 1, none⟩) qd).trans hR3.2.2.2⟩) (fun hR4 => ?_)
     clear hK K hR3
     (try simp only [Act.put, sa, List.set])
     clear hb qx qv qd
     have qx := xx.lt
     have qv := xv.lt
     have qd := xd.lt
     refine tz 7 ?_
     (try simp only [Act.put, sa, List.set])
     refine tz 8 ?_
     (try simp only [Act.put, sa, List.set])
     refine tz 9 ?_
     (try simp only [Act.put, sa, List.set])
     have uc0 := xy.cell 0
     have uf0 := xy.free 0
     have uc1 := xy.cell 1
     have uf1 := xy.free 1
     simp only [List.getElem?_toArray, List.getElem?_cons_zero, List.getElem?_cons_succ] at uc0 uc1
     refine rz 12 fun K hK => ?_
     go_simp
     refine hK.out _ _ (⟨⟨cell_store hR4.1.1 nxy, cell_store hR4.1.2.1 nxy, cell_store hR4.1.2.2.1 nxy, cell_store hR4.1.2.2.2 nxy⟩, ⟨cell_store hR4.2.1.1 nvy, cell_store hR4.2.1.2.1 nvy, cell_store hR4.2.1.2.2.1 nvy, cell_store hR4.2.1.2.2.2 nvy⟩, cell_store hR4.2.2.1 ndy, cell_store hR4.2.2.2 ndy⟩) (fun hR5 => ?_)
     clear hK K hR4
     (try simp only [Act.put, sa, List.set])
     clear uc0 uf0 uc1 uf1; replace xe := xe.put_other Ay 0 (.bool bk) (by omega); replace xe := xe.put_other Ay 1 (.slice ak kk ck) (by omega); replace gxn := (gxn.setB xy rfl 0 (.bool bk)).setB (xy.put 0 (.bool bk)) rfl 1 (.slice ak kk ck); replace gxd := (gxd.setB xy rfl 0 (.bool bk)).setB (xy.put 0 (.bool bk)) rfl 1 (.slice ak kk ck); replace gvn := (gvn.setB xy rfl 0 (.bool bk)).setB (xy.put 0 (.bool bk)) rfl 1 (.slice ak kk ck); replace gvd := (gvd.setB xy rfl 0 (.bool bk)).setB (xy.put 0 (.bool bk)) rfl 1 (.slice ak kk ck); replace gd := (gd.setB xy rfl 0 (.bool bk)).setB (xy.put 0 (.bool bk)) rfl 1 (.slice ak kk ck); replace gn := (gn.setB xy rfl 0 (.bool bk)).setB (xy.put 0 (.bool bk)) rfl 1 (.slice ak kk ck); replace gk := (gk.setB xy rfl 0 (.bool bk)).setB (xy.put 0 (.bool bk)) rfl 1 (.slice ak kk ck); replace ge := (ge.setB xy rfl 0 (.bool bk)).setB (xy.put 0 (.bool bk)) rfl 1 (.slice ak kk ck); replace hM := (hM.setCell (p := ⟨Ay, 0, none⟩) ly (.bool bk)).setCell (p := ⟨Ay, 1, none⟩) ly (.slice ak kk ck)
     replace xy : Bk _ Ay #[.bool bk, .slice ak kk ck] 24 := (xy.put 0 (.bool bk)).put 1 (.slice ak kk ck)
     clear qx qv qd; replace xx := (xx.put_other Ay 0 (.bool bk) (by omega)).put_other Ay 1 (.slice ak kk ck) (by omega); replace xv := (xv.put_other Ay 0 (.bool bk) (by omega)).put_other Ay 1 (.slice ak kk ck) (by omega); replace xd := (xd.put_other Ay 0 (.bool bk) (by omega)).put_other Ay 1 (.slice ak kk ck) (by omega)
     have qx := xx.lt
     have qv := xv.lt
     have qd := xd.lt
     have uc0 := xe.cell 0
     have uf0 := xe.free 0
     have uc1 := xe.cell 1
     have uf1 := xe.free 1
     simp only [List.getElem?_toArray, List.getElem?_cons_zero, List.getElem?_cons_succ] at uc0 uc1
     refine rz 13 fun K hK => ?_
     go_simp
     refine hK.out _ _ (⟨⟨cell_store hR5.1.1 nxe, cell_store hR5.1.2.1 nxe, cell_store hR5.1.2.2.1 nxe, cell_store hR5.1.2.2.2 nxe⟩, ⟨cell_store hR5.2.1.1 nve, cell_store hR5.2.1.2.1 nve, cell_store hR5.2.1.2.2.1 nve, cell_store hR5.2.1.2.2.2 nve⟩, cell_store hR5.2.2.1 nde, cell_store hR5.2.2.2 nde⟩) (fun hR6 => ?_)
     clear hK K hR5
     (try simp only [Act.put, sa, List.set])
     clear uc0 uf0 uc1 uf1; replace xy := xy.put_other Ae 0 (.bool be) (by omega); replace xy := xy.put_other Ae 1 (.slice ae ke ce) (by omega); replace gxn := (gxn.setB xe rfl 0 (.bool be)).setB (xe.put 0 (.bool be)) rfl 1 (.slice ae ke ce); replace gxd := (gxd.setB xe rfl 0 (.bool be)).setB (xe.put 0 (.bool be)) rfl 1 (.slice ae ke ce); replace gvn := (gvn.setB xe rfl 0 (.bool be)).setB (xe.put 0 (.bool be)) rfl 1 (.slice ae ke ce); replace gvd := (gvd.setB xe rfl 0 (.bool be)).setB (xe.put 0 (.bool be)) rfl 1 (.slice ae ke ce); replace gd := (gd.setB xe rfl 0 (.bool be)).setB (xe.put 0 (.bool be)) rfl 1 (.slice ae ke ce); replace gn := (gn.setB xe rfl 0 (.bool be)).setB (xe.put 0 (.bool be)) rfl 1 (.slice ae ke ce); replace gk := (gk.setB xe rfl 0 (.bool be)).setB (xe.put 0 (.bool be)) rfl 1 (.slice ae ke ce); replace ge := (ge.setB xe rfl 0 (.bool be)).setB (xe.put 0 (.bool be)) rfl 1 (.slice ae ke ce); replace hM := (hM.setCell (p := ⟨Ae, 0, none⟩) le (.bool be)).setCell (p := ⟨Ae, 1, none⟩) le (.slice ae ke ce)
     replace xe : Bk _ Ae #[.bool be, .slice ae ke ce] 24 := (xe.put 0 (.bool be)).put 1 (.slice ae ke ce)
     clear qx qv qd; replace xx := (xx.put_other Ae 0 (.bool be) (by omega)).put_other Ae 1 (.slice ae ke ce) (by omega); replace xv := (xv.put_other Ae 0 (.bool be) (by omega)).put_other Ae 1 (.slice ae ke ce) (by omega); replace xd := (xd.put_other Ae 0 (.bool be) (by omega)).put_other Ae 1 (.slice ae ke ce) (by omega)
     have qx := xx.lt
     have qv := xv.lt
     have qd := xd.lt
     refine wpAnyH_done (by kernel_rfl) ?_ _
     refine NoPanic.normal ?_
     clear hR6
     go_wp2_with fail
     go_meet
     exact ⟨_, _, _, _, _, _, _, _, _, _, rfl, rfl, xy, xe, gk, ge, by omega, ly, le, hM⟩
  ·
   have nxy : wd.heap.size ≠ w.heap.size := (by have := xx.lt; omega)
   have nvy : wd.heap.size ≠ w.heap.size + 1 := (by have := xv.lt; omega)
   have ndy : wd.heap.size ≠ w1.heap.size := (by have := xd.lt; omega)
   have hb := (Below.refl wd.heap.size wd).alloc (Nat.le_refl _) (.cells #[.bool false, .slice none 0 0] 24)
   go_simp
   refine hK.out _ _ (⟨keep4 hb qx hR0.1, keep4 hb qv hR0.2.1, (hb.cell (p := ⟨w1.heap.size, 0, none⟩) qd).trans hR0.2.2.1, (hb.cell (p := ⟨w1.heap.size, 1, none⟩) qd).trans hR0.2.2.2⟩) (fun hR1 => ?_)
   clear hK K hR0
   (try simp only [Act.put, sa, List.set])
   have xy := Bk.new wd #[.bool false, .slice none 0 0] 24
   have ly := hM.size
   replace xx := xx.on hb; replace xv := xv.on hb; replace xr := xr.on hb; replace xd := xd.on hb; replace gxn := gxn.on hb; replace gxd := gxd.on hb; replace gvn := gvn.on hb; replace gvd := gvd.on hb; replace gd := gd.on hb; replace hM := hM.trans (hb.mono hM.size); clear hb qx qv qd
   generalize hA : wd.heap.size = Ay at *
   generalize wd.alloc (.cells #[.bool false, .slice none 0 0] 24) = wc17 at *
   clear hA
   have qx := xx.lt
   have qv := xv.lt
   have qd := xd.lt
   refine rd2 (i := 4) (j := 11) (by kernel_rfl) rfl rfl (fun K hK => ?_) (fun K hK => ?_)
   ·
    go_simp
    go_at_call 118; refine (HP2.out _ _ _ gxn gvd).mono ?_; rintro e wc18 ⟨⟨v2, rfl, gn⟩, hb⟩; obtain ⟨bn, an, kn, cn, rfl⟩ := gn.opened; replace xx := xx.on hb; replace xv := xv.on hb; replace xr := xr.on hb; replace xd := xd.on hb; replace xy := xy.on hb; replace gxn := gxn.on hb; replace gxd := gxd.on hb; replace gvn := gvn.on hb; replace gvd := gvd.on hb; replace gd := gd.on hb; replace hM := hM.trans (hb.mono hM.size)
    (try go_wp2_with fail)
    refine hK.out _ _ (⟨keep4 hb qx hR1.1, keep4 hb qv hR1.2.1, (hb.cell (p := ⟨w1.heap.size, 0, none⟩) qd).trans hR1.2.2.1, (hb.cell (p := ⟨w1.heap.size, 1, none⟩) qd).trans hR1.2.2.2⟩) (fun hR2 => ?_)
    clear hK K hR1
    (try simp only [Act.put, sa, List.set])
    clear hb qx qv qd
    have qx := xx.lt
    have qv := xv.lt
    have qd := xd.lt
    refine rd2 (i := 6) (j := 11) (by kernel_rfl) rfl rfl (fun K hK => ?_) (fun K hK => ?_)
    ·
     go_simp
     go_at_call 141; refine (HFl.out _ _ _ gn gd).mono ?_; rintro e wc19 ⟨⟨v3, v4, rfl, gk, ge⟩, hb⟩; obtain ⟨bk, ak, kk, ck, rfl⟩ := gk.opened; obtain ⟨be, ae, ke, ce, rfl⟩ := ge.opened; replace xx := xx.on hb; replace xv := xv.on hb; replace xr := xr.on hb; replace xd := xd.on hb; replace xy := xy.on hb; replace gxn := gxn.on hb; replace gxd := gxd.on hb; replace gvn := gvn.on hb; replace gvd := gvd.on hb; replace gd := gd.on hb; replace gn := gn.on hb; replace hM := hM.trans (hb.mono hM.size)
     (try go_wp2_with fail)
     refine hK.out _ _ (⟨keep4 hb qx hR2.1, keep4 hb qv hR2.2.1, (hb.cell (p := ⟨w1.heap.size, 0, none⟩) qd).trans hR2.2.2.1, (hb.cell (p := ⟨w1.heap.size, 1, none⟩) qd).trans hR2.2.2.2⟩) (fun hR3 => ?_)
     clear hK K hR2
     (try simp only [Act.put, sa, List.set])
     clear hb qx qv qd
     have qx := xx.lt
     have qv := xv.lt
     have qd := xd.lt
     refine tz 7 ?_
     (try simp only [Act.put, sa, List.set])
     refine tz 8 ?_
     (try simp only [Act.put, sa, List.set])
     refine tz 9 ?_
     (try simp only [Act.put, sa, List.set])
     have nxe : wc19.heap.size ≠ w.heap.size := (by have := xx.lt; omega)
     have nve : wc19.heap.size ≠ w.heap.size + 1 := (by have := xv.lt; omega)
     have nde : wc19.heap.size ≠ w1.heap.size := (by have := xd.lt; omega)
     have mye : Ay ≠ wc19.heap.size := (by have := xy.lt; omega)
     have hb := (Below.refl wc19.heap.size wc19).alloc (Nat.le_refl _) (.cells #[.bool false, .slice none 0 0] 24)
     refine rz 11 fun K hK => ?_
     go_simp
     refine hK.out _ _ (⟨keep4 hb qx hR3.1, keep4 hb qv hR3.2.1, (hb.cell (p := ⟨w1.heap.size, 0, none⟩) qd).trans hR3.2.2.1, (hb.cell (p := ⟨w1.heap.size, 1, none⟩) qd).trans hR3.2.2.2⟩) (fun hR4 => ?_)
     clear hK K hR3
     (try simp only [Act.put, sa, List.set])
     have xe := Bk.new wc19 #[.bool false, .slice none 0 0] 24
     have le := hM.size
     replace xx := xx.on hb; replace xv := xv.on hb; replace xr := xr.on hb; replace xd := xd.on hb; replace xy := xy.on hb; replace gxn := gxn.on hb; replace gxd := gxd.on hb; replace gvn := gvn.on hb; replace gvd := gvd.on hb; replace gd := gd.on hb; replace gn := gn.on hb; replace gk := gk.on hb; replace ge := ge.on hb; replace hM := hM.trans (hb.mono hM.size); clear hb qx qv qd
     generalize hA : wc19.heap.size = Ae at *
     generalize wc19.alloc (.cells #[.bool false, .slice none 0 0] 24) = wc20 at *
     clear hA
     have qx := xx.lt
     have qv := xv.lt
     have qd := xd.lt
     have uc0 := xy.cell 0
     have uf0 := xy.free 0
     have uc1 := xy.cell 1
     have uf1 := xy.free 1
     simp only [List.getElem?_toArray, List.getElem?_cons_zero, List.getElem?_cons_succ] at uc0 uc1
     refine rz 12 fun K hK => ?_
     go_simp
     refine hK.out _ _ (⟨⟨cell_store hR4.1.1 nxy, cell_store hR4.1.2.1 nxy, cell_store hR4.1.2.2.1 nxy, cell_store hR4.1.2.2.2 nxy⟩, ⟨cell_store hR4.2.1.1 nvy, cell_store hR4.2.1.2.1 nvy, cell_store hR4.2.1.2.2.1 nvy, cell_store hR4.2.1.2.2.2 nvy⟩, cell_store hR4.2.2.1 ndy, cell_store hR4.2.2.2 ndy⟩) (fun hR5 => ?_)
     clear hK K hR4
     (try simp only [Act.put, sa, List.set])
     clear uc0 uf0 uc1 uf1; replace xe := xe.put_other Ay 0 (.bool bk) (by omega); replace xe := xe.put_other Ay 1 (.slice ak kk ck) (by omega); replace gxn := (gxn.setB xy rfl 0 (.bool bk)).setB (xy.put 0 (.bool bk)) rfl 1 (.slice ak kk ck); replace gxd := (gxd.setB xy rfl 0 (.bool bk)).setB (xy.put 0 (.bool bk)) rfl 1 (.slice ak kk ck); replace gvn := (gvn.setB xy rfl 0 (.bool bk)).setB (xy.put 0 (.bool bk)) rfl 1 (.slice ak kk ck); replace gvd := (gvd.setB xy rfl 0 (.bool bk)).setB (xy.put 0 (.bool bk)) rfl 1 (.slice ak kk ck); replace gd := (gd.setB xy rfl 0 (.bool bk)).setB (xy.put 0 (.bool bk)) rfl 1 (.slice ak kk ck); replace gn := (gn.setB xy rfl 0 (.bool bk)).setB (xy.put 0 (.bool bk)) rfl 1 (.slice ak kk ck); replace gk := (gk.setB xy rfl 0 (.bool bk)).setB (xy.put 0 (.bool bk)) rfl 1 (.slice ak kk ck); replace ge := (ge.setB xy rfl 0 (.bool bk)).setB (xy.put 0 (.bool bk)) rfl 1 (.slice ak kk ck); replace hM := (hM.setCell (p := ⟨Ay, 0, none⟩) ly (.bool bk)).setCell (p := ⟨Ay, 1, none⟩) ly (.slice ak kk ck)
     replace xy : Bk _ Ay #[.bool bk, .slice ak kk ck] 24 := (xy.put 0 (.bool bk)).put 1 (.slice ak kk ck)
     clear qx qv qd; replace xx := (xx.put_other Ay 0 (.bool bk) (by omega)).put_other Ay 1 (.slice ak kk ck) (by omega); replace xv := (xv.put_other Ay 0 (.bool bk) (by omega)).put_other Ay 1 (.slice ak kk ck) (by omega); replace xd := (xd.put_other Ay 0 (.bool bk) (by omega)).put_other Ay 1 (.slice ak kk ck) (by omega)
     have qx := xx.lt
     have qv := xv.lt
     have qd := xd.lt
     have uc0 := xe.cell 0
     have uf0 := xe.free 0
     have uc1 := xe.cell 1
     have uf1 := xe.free 1
     simp only [List.getElem?_toArray, List.getElem?_cons_zero, List.getElem?_cons_succ] at uc0 uc1
     refine rz 13 fun K hK => ?_
     go_simp
     refine hK.out _ _ (⟨⟨cell_store hR5.1.1 nxe, cell_store hR5.1.2.1 nxe, cell_store hR5.1.2.2.1 nxe, cell_store hR5.1.2.2.2 nxe⟩, ⟨cell_store hR5.2.1.1 nve, cell_store hR5.2.1.2.1 nve, cell_store hR5.2.1.2.2.1 nve, cell_store hR5.2.1.2.2.2 nve⟩, cell_store hR5.2.2.1 nde, cell_store hR5.2.2.2 nde⟩) (fun hR6 => ?_)
     clear hK K hR5
     (try simp only [Act.put, sa, List.set])
     clear uc0 uf0 uc1 uf1; replace xy := xy.put_other Ae 0 (.bool be) (by omega); replace xy := xy.put_other Ae 1 (.slice ae ke ce) (by omega); replace gxn := (gxn.setB xe rfl 0 (.bool be)).setB (xe.put 0 (.bool be)) rfl 1 (.slice ae ke ce); replace gxd := (gxd.setB xe rfl 0 (.bool be)).setB (xe.put 0 (.bool be)) rfl 1 (.slice ae ke ce); replace gvn := (gvn.setB xe rfl 0 (.bool be)).setB (xe.put 0 (.bool be)) rfl 1 (.slice ae ke ce); replace gvd := (gvd.setB xe rfl 0 (.bool be)).setB (xe.put 0 (.bool be)) rfl 1 (.slice ae ke ce); replace gd := (gd.setB xe rfl 0 (.bool be)).setB (xe.put 0 (.bool be)) rfl 1 (.slice ae ke ce); replace gn := (gn.setB xe rfl 0 (.bool be)).setB (xe.put 0 (.bool be)) rfl 1 (.slice ae ke ce); replace gk := (gk.setB xe rfl 0 (.bool be)).setB (xe.put 0 (.bool be)) rfl 1 (.slice ae ke ce); replace ge := (ge.setB xe rfl 0 (.bool be)).setB (xe.put 0 (.bool be)) rfl 1 (.slice ae ke ce); replace hM := (hM.setCell (p := ⟨Ae, 0, none⟩) le (.bool be)).setCell (p := ⟨Ae, 1, none⟩) le (.slice ae ke ce)
     replace xe : Bk _ Ae #[.bool be, .slice ae ke ce] 24 := (xe.put 0 (.bool be)).put 1 (.slice ae ke ce)
     clear qx qv qd; replace xx := (xx.put_other Ae 0 (.bool be) (by omega)).put_other Ae 1 (.slice ae ke ce) (by omega); replace xv := (xv.put_other Ae 0 (.bool be) (by omega)).put_other Ae 1 (.slice ae ke ce) (by omega); replace xd := (xd.put_other Ae 0 (.bool be) (by omega)).put_other Ae 1 (.slice ae ke ce) (by omega)
     have qx := xx.lt
     have qv := xv.lt
     have qd := xd.lt
     refine wpAnyH_done (by kernel_rfl) ?_ _
     refine NoPanic.normal ?_
     clear hR6
     go_wp2_with fail
     go_meet
     exact ⟨_, _, _, _, _, _, _, _, _, _, rfl, rfl, xy, xe, gk, ge, by omega, ly, le, hM⟩
    ·
     have nxe : wc18.heap.size ≠ w.heap.size := (by have := xx.lt; omega)
     have nve : wc18.heap.size ≠ w.heap.size + 1 := (by have := xv.lt; omega)
     have nde : wc18.heap.size ≠ w1.heap.size := (by have := xd.lt; omega)
     have mye : Ay ≠ wc18.heap.size := (by have := xy.lt; omega)
     have hb := (Below.refl wc18.heap.size wc18).alloc (Nat.le_refl _) (.cells #[.bool false, .slice none 0 0] 24)
     go_simp
     refine hK.out _ _ (⟨keep4 hb qx hR2.1, keep4 hb qv hR2.2.1, (hb.cell (p := ⟨w1.heap.size, 0, none⟩) qd).trans hR2.2.2.1, (hb.cell (p := ⟨w1.heap.size, 1, none⟩) qd).trans hR2.2.2.2⟩) (fun hR3 => ?_)
     clear hK K hR2
     (try simp only [Act.put, sa, List.set])
     have xe := Bk.new wc18 #[.bool false, .slice none 0 0] 24
     have le := hM.size
     replace xx := xx.on hb; replace xv := xv.on hb; replace xr := xr.on hb; replace xd := xd.on hb; replace xy := xy.on hb; replace gxn := gxn.on hb; replace gxd := gxd.on hb; replace gvn := gvn.on hb; replace gvd := gvd.on hb; replace gd := gd.on hb; replace gn := gn.on hb; replace hM := hM.trans (hb.mono hM.size); clear hb qx qv qd
     generalize hA : wc18.heap.size = Ae at *
     generalize wc18.alloc (.cells #[.bool false, .slice none 0 0] 24) = wc21 at *
     clear hA
     have qx := xx.lt
     have qv := xv.lt
     have qd := xd.lt
     refine rz 6 fun K hK => ?_
     go_simp
     go_at_call 141; refine (HFl.out _ _ _ gn gd).mono ?_; rintro e wc22 ⟨⟨v3, v4, rfl, gk, ge⟩, hb⟩; obtain ⟨bk, ak, kk, ck, rfl⟩ := gk.opened; obtain ⟨be, ae, ke, ce, rfl⟩ := ge.opened; replace xx := xx.on hb; replace xv := xv.on hb; replace xr := xr.on hb; replace xd := xd.on hb; replace xy := xy.on hb; replace xe := xe.on hb; replace gxn := gxn.on hb; replace gxd := gxd.on hb; replace gvn := gvn.on hb; replace gvd := gvd.on hb; replace gd := gd.on hb; replace gn := gn.on hb; replace hM := hM.trans (hb.mono hM.size)
     (try go_wp2_with fail)
     refine hK.out _ _ (⟨keep4 hb qx hR3.1, keep4 hb qv hR3.2.1, (hb.cell (p := ⟨w1.heap.size, 0, none⟩) qd).trans hR3.2.2.1, (hb.cell (p := ⟨w1.heap.size, 1, none⟩) qd).trans hR3.2.2.2⟩) (fun hR4 => ?_)
     clear hK K hR3
     (try simp only [Act.put, sa, List.set])
     clear hb qx qv qd
     have qx := xx.lt
     have qv := xv.lt
     have qd := xd.lt
     refine tz 7 ?_
     (try simp only [Act.put, sa, List.set])
     refine tz 8 ?_
     (try simp only [Act.put, sa, List.set])
     refine tz 9 ?_
     (try simp only [Act.put, sa, List.set])
     have uc0 := xy.cell 0
     have uf0 := xy.free 0
     have uc1 := xy.cell 1
     have uf1 := xy.free 1
     simp only [List.getElem?_toArray, List.getElem?_cons_zero, List.getElem?_cons_succ] at uc0 uc1
     refine rz 12 fun K hK => ?_
     go_simp
     refine hK.out _ _ (⟨⟨cell_store hR4.1.1 nxy, cell_store hR4.1.2.1 nxy, cell_store hR4.1.2.2.1 nxy, cell_store hR4.1.2.2.2 nxy⟩, ⟨cell_store hR4.2.1.1 nvy, cell_store hR4.2.1.2.1 nvy, cell_store hR4.2.1.2.2.1 nvy, cell_store hR4.2.1.2.2.2 nvy⟩, cell_store hR4.2.2.1 ndy, cell_store hR4.2.2.2 ndy⟩) (fun hR5 => ?_)
     clear hK K hR4
     (try simp only [Act.put, sa, List.set])
     clear uc0 uf0 uc1 uf1; replace xe := xe.put_other Ay 0 (.bool bk) (by omega); replace xe := xe.put_other Ay 1 (.slice ak kk ck) (by omega); replace gxn := (gxn.setB xy rfl 0 (.bool bk)).setB (xy.put 0 (.bool bk)) rfl 1 (.slice ak kk ck); replace gxd := (gxd.setB xy rfl 0 (.bool bk)).setB (xy.put 0 (.bool bk)) rfl 1 (.slice ak kk ck); replace gvn := (gvn.setB xy rfl 0 (.bool bk)).setB (xy.put 0 (.bool bk)) rfl 1 (.slice ak kk ck); replace gvd := (gvd.setB xy rfl 0 (.bool bk)).setB (xy.put 0 (.bool bk)) rfl 1 (.slice ak kk ck); replace gd := (gd.setB xy rfl 0 (.bool bk)).setB (xy.put 0 (.bool bk)) rfl 1 (.slice ak kk ck); replace gn := (gn.setB xy rfl 0 (.bool bk)).setB (xy.put 0 (.bool bk)) rfl 1 (.slice ak kk ck); replace gk := (gk.setB xy rfl 0 (.bool bk)).setB (xy.put 0 (.bool bk)) rfl 1 (.slice ak kk ck); replace ge := (ge.setB xy rfl 0 (.bool bk)).setB (xy.put 0 (.bool bk)) rfl 1 (.slice ak kk ck); replace hM := (hM.setCell (p := ⟨Ay, 0, none⟩) ly (.bool bk)).setCell (p := ⟨Ay, 1, none⟩) ly (.slice ak kk ck)
     replace xy : Bk _ Ay #[.bool bk, .slice ak kk ck] 24 := (xy.put 0 (.bool bk)).put 1 (.slice ak kk ck)
     clear qx qv qd; replace xx := (xx.put_other Ay 0 (.bool bk) (by omega)).put_other Ay 1 (.slice ak kk ck) (by omega); replace xv := (xv.put_other Ay 0 (.bool bk) (by omega)).put_other Ay 1 (.slice ak kk ck) (by omega); replace xd := (xd.put_other Ay 0 (.bool bk) (by omega)).put_other Ay 1 (.slice ak kk ck) (by omega)
     have qx := xx.lt
     have qv := xv.lt
     have qd := xd.lt
     have uc0 := xe.cell 0
     have uf0 := xe.free 0
     have uc1 := xe.cell 1
     have uf1 := xe.free 1
     simp only [List.getElem?_toArray, List.getElem?_cons_zero, List.getElem?_cons_succ] at uc0 uc1
     refine rz 13 fun K hK => ?_
     go_simp
     refine hK.out _ _ (⟨⟨cell_store hR5.1.1 nxe, cell_store hR5.1.2.1 nxe, cell_store hR5.1.2.2.1 nxe, cell_store hR5.1.2.2.2 nxe⟩, ⟨cell_store hR5.2.1.1 nve, cell_store hR5.2.1.2.1 nve, cell_store hR5.2.1.2.2.1 nve, cell_store hR5.2.1.2.2.2 nve⟩, cell_store hR5.2.2.1 nde, cell_store hR5.2.2.2 nde⟩) (fun hR6 => ?_)
     clear hK K hR5
     (try simp only [Act.put, sa, List.set])
     clear uc0 uf0 uc1 uf1; replace xy := xy.put_other Ae 0 (.bool be) (by omega); replace xy := xy.put_other Ae 1 (.slice ae ke ce) (by omega); replace gxn := (gxn.setB xe rfl 0 (.bool be)).setB (xe.put 0 (.bool be)) rfl 1 (.slice ae ke ce); replace gxd := (gxd.setB xe rfl 0 (.bool be)).setB (xe.put 0 (.bool be)) rfl 1 (.slice ae ke ce); replace gvn := (gvn.setB xe rfl 0 (.bool be)).setB (xe.put 0 (.bool be)) rfl 1 (.slice ae ke ce); replace gvd := (gvd.setB xe rfl 0 (.bool be)).setB (xe.put 0 (.bool be)) rfl 1 (.slice ae ke ce); replace gd := (gd.setB xe rfl 0 (.bool be)).setB (xe.put 0 (.bool be)) rfl 1 (.slice ae ke ce); replace gn := (gn.setB xe rfl 0 (.bool be)).setB (xe.put 0 (.bool be)) rfl 1 (.slice ae ke ce); replace gk := (gk.setB xe rfl 0 (.bool be)).setB (xe.put 0 (.bool be)) rfl 1 (.slice ae ke ce); replace ge := (ge.setB xe rfl 0 (.bool be)).setB (xe.put 0 (.bool be)) rfl 1 (.slice ae ke ce); replace hM := (hM.setCell (p := ⟨Ae, 0, none⟩) le (.bool be)).setCell (p := ⟨Ae, 1, none⟩) le (.slice ae ke ce)
     replace xe : Bk _ Ae #[.bool be, .slice ae ke ce] 24 := (xe.put 0 (.bool be)).put 1 (.slice ae ke ce)
     clear qx qv qd; replace xx := (xx.put_other Ae 0 (.bool be) (by omega)).put_other Ae 1 (.slice ae ke ce) (by omega); replace xv := (xv.put_other Ae 0 (.bool be) (by omega)).put_other Ae 1 (.slice ae ke ce) (by omega); replace xd := (xd.put_other Ae 0 (.bool be) (by omega)).put_other Ae 1 (.slice ae ke ce) (by omega)
     have qx := xx.lt
     have qv := xv.lt
     have qd := xd.lt
     refine wpAnyH_done (by kernel_rfl) ?_ _
     refine NoPanic.normal ?_
     clear hR6
     go_wp2_with fail
     go_meet
     exact ⟨_, _, _, _, _, _, _, _, _, _, rfl, rfl, xy, xe, gk, ge, by omega, ly, le, hM⟩
   ·
    have nxe : wc17.heap.size ≠ w.heap.size := (by have := xx.lt; omega)
    have nve : wc17.heap.size ≠ w.heap.size + 1 := (by have := xv.lt; omega)
    have nde : wc17.heap.size ≠ w1.heap.size := (by have := xd.lt; omega)
    have mye : Ay ≠ wc17.heap.size := (by have := xy.lt; omega)
    have hb := (Below.refl wc17.heap.size wc17).alloc (Nat.le_refl _) (.cells #[.bool false, .slice none 0 0] 24)
    go_simp
    refine hK.out _ _ (⟨keep4 hb qx hR1.1, keep4 hb qv hR1.2.1, (hb.cell (p := ⟨w1.heap.size, 0, none⟩) qd).trans hR1.2.2.1, (hb.cell (p := ⟨w1.heap.size, 1, none⟩) qd).trans hR1.2.2.2⟩) (fun hR2 => ?_)
    clear hK K hR1
    (try simp only [Act.put, sa, List.set])
    have xe := Bk.new wc17 #[.bool false, .slice none 0 0] 24
    have le := hM.size
    replace xx := xx.on hb; replace xv := xv.on hb; replace xr := xr.on hb; replace xd := xd.on hb; replace xy := xy.on hb; replace gxn := gxn.on hb; replace gxd := gxd.on hb; replace gvn := gvn.on hb; replace gvd := gvd.on hb; replace gd := gd.on hb; replace hM := hM.trans (hb.mono hM.size); clear hb qx qv qd
    generalize hA : wc17.heap.size = Ae at *
    generalize wc17.alloc (.cells #[.bool false, .slice none 0 0] 24) = wc23 at *
    clear hA
    have qx := xx.lt
    have qv := xv.lt
    have qd := xd.lt
    refine rz 4 fun K hK => ?_
    go_simp
    go_at_call 118; refine (HP2.out _ _ _ gxn gvd).mono ?_; rintro e wc24 ⟨⟨v2, rfl, gn⟩, hb⟩; obtain ⟨bn, an, kn, cn, rfl⟩ := gn.opened; replace xx := xx.on hb; replace xv := xv.on hb; replace xr := xr.on hb; replace xd := xd.on hb; replace xy := xy.on hb; replace xe := xe.on hb; replace gxn := gxn.on hb; replace gxd := gxd.on hb; replace gvn := gvn.on hb; replace gvd := gvd.on hb; replace gd := gd.on hb; replace hM := hM.trans (hb.mono hM.size)
    (try go_wp2_with fail)
    refine hK.out _ _ (⟨keep4 hb qx hR2.1, keep4 hb qv hR2.2.1, (hb.cell (p := ⟨w1.heap.size, 0, none⟩) qd).trans hR2.2.2.1, (hb.cell (p := ⟨w1.heap.size, 1, none⟩) qd).trans hR2.2.2.2⟩) (fun hR3 => ?_)
    clear hK K hR2
    (try simp only [Act.put, sa, List.set])
    clear hb qx qv qd
    have qx := xx.lt
    have qv := xv.lt
    have qd := xd.lt
    refine rz 6 fun K hK => ?_
    go_simp
    go_at_call 141; refine (HFl.out _ _ _ gn gd).mono ?_; rintro e wc25 ⟨⟨v3, v4, rfl, gk, ge⟩, hb⟩; obtain ⟨bk, ak, kk, ck, rfl⟩ := gk.opened; obtain ⟨be, ae, ke, ce, rfl⟩ := ge.opened; replace xx := xx.on hb; replace xv := xv.on hb; replace xr := xr.on hb; replace xd := xd.on hb; replace xy := xy.on hb; replace xe := xe.on hb; replace gxn := gxn.on hb; replace gxd := gxd.on hb; replace gvn := gvn.on hb; replace gvd := gvd.on hb; replace gd := gd.on hb; replace gn := gn.on hb; replace hM := hM.trans (hb.mono hM.size)
    (try go_wp2_with fail)
    refine hK.out _ _ (⟨keep4 hb qx hR3.1, keep4 hb qv hR3.2.1, (hb.cell (p := ⟨w1.heap.size, 0, none⟩) qd).trans hR3.2.2.1, (hb.cell (p := ⟨w1.heap.size, 1, none⟩) qd).trans hR3.2.2.2⟩) (fun hR4 => ?_)
    clear hK K hR3
    (try simp only [Act.put, sa, List.set])
    clear hb qx qv qd
    have qx := xx.lt
    have qv := xv.lt
    have qd := xd.lt
    refine tz 7 ?_
    (try simp only [Act.put, sa, List.set])
    refine tz 8 ?_
    (try simp only [Act.put, sa, List.set])
    refine tz 9 ?_
    (try simp only [Act.put, sa, List.set])
    have uc0 := xy.cell 0
    have uf0 := xy.free 0
    have uc1 := xy.cell 1
    have uf1 := xy.free 1
    simp only [List.getElem?_toArray, List.getElem?_cons_zero, List.getElem?_cons_succ] at uc0 uc1
    refine rz 12 fun K hK => ?_
    go_simp
    refine hK.out _ _ (⟨⟨cell_store hR4.1.1 nxy, cell_store hR4.1.2.1 nxy, cell_store hR4.1.2.2.1 nxy, cell_store hR4.1.2.2.2 nxy⟩, ⟨cell_store hR4.2.1.1 nvy, cell_store hR4.2.1.2.1 nvy, cell_store hR4.2.1.2.2.1 nvy, cell_store hR4.2.1.2.2.2 nvy⟩, cell_store hR4.2.2.1 ndy, cell_store hR4.2.2.2 ndy⟩) (fun hR5 => ?_)
    clear hK K hR4
    (try simp only [Act.put, sa, List.set])
    clear uc0 uf0 uc1 uf1; replace xe := xe.put_other Ay 0 (.bool bk) (by omega); replace xe := xe.put_other Ay 1 (.slice ak kk ck) (by omega); replace gxn := (gxn.setB xy rfl 0 (.bool bk)).setB (xy.put 0 (.bool bk)) rfl 1 (.slice ak kk ck); replace gxd := (gxd.setB xy rfl 0 (.bool bk)).setB (xy.put 0 (.bool bk)) rfl 1 (.slice ak kk ck); replace gvn := (gvn.setB xy rfl 0 (.bool bk)).setB (xy.put 0 (.bool bk)) rfl 1 (.slice ak kk ck); replace gvd := (gvd.setB xy rfl 0 (.bool bk)).setB (xy.put 0 (.bool bk)) rfl 1 (.slice ak kk ck); replace gd := (gd.setB xy rfl 0 (.bool bk)).setB (xy.put 0 (.bool bk)) rfl 1 (.slice ak kk ck); replace gn := (gn.setB xy rfl 0 (.bool bk)).setB (xy.put 0 (.bool bk)) rfl 1 (.slice ak kk ck); replace gk := (gk.setB xy rfl 0 (.bool bk)).setB (xy.put 0 (.bool bk)) rfl 1 (.slice ak kk ck); replace ge := (ge.setB xy rfl 0 (.bool bk)).setB (xy.put 0 (.bool bk)) rfl 1 (.slice ak kk ck); replace hM := (hM.setCell (p := ⟨Ay, 0, none⟩) ly (.bool bk)).setCell (p := ⟨Ay, 1, none⟩) ly (.slice ak kk ck)
    replace xy : Bk _ Ay #[.bool bk, .slice ak kk ck] 24 := (xy.put 0 (.bool bk)).put 1 (.slice ak kk ck)
    clear qx qv qd; replace xx := (xx.put_other Ay 0 (.bool bk) (by omega)).put_other Ay 1 (.slice ak kk ck) (by omega); replace xv := (xv.put_other Ay 0 (.bool bk) (by omega)).put_other Ay 1 (.slice ak kk ck) (by omega); replace xd := (xd.put_other Ay 0 (.bool bk) (by omega)).put_other Ay 1 (.slice ak kk ck) (by omega)
    have qx := xx.lt
    have qv := xv.lt
    have qd := xd.lt
    have uc0 := xe.cell 0
    have uf0 := xe.free 0
    have uc1 := xe.cell 1
    have uf1 := xe.free 1
    simp only [List.getElem?_toArray, List.getElem?_cons_zero, List.getElem?_cons_succ] at uc0 uc1
    refine rz 13 fun K hK => ?_
    go_simp
    refine hK.out _ _ (⟨⟨cell_store hR5.1.1 nxe, cell_store hR5.1.2.1 nxe, cell_store hR5.1.2.2.1 nxe, cell_store hR5.1.2.2.2 nxe⟩, ⟨cell_store hR5.2.1.1 nve, cell_store hR5.2.1.2.1 nve, cell_store hR5.2.1.2.2.1 nve, cell_store hR5.2.1.2.2.2 nve⟩, cell_store hR5.2.2.1 nde, cell_store hR5.2.2.2 nde⟩) (fun hR6 => ?_)
    clear hK K hR5
    (try simp only [Act.put, sa, List.set])
    clear uc0 uf0 uc1 uf1; replace xy := xy.put_other Ae 0 (.bool be) (by omega); replace xy := xy.put_other Ae 1 (.slice ae ke ce) (by omega); replace gxn := (gxn.setB xe rfl 0 (.bool be)).setB (xe.put 0 (.bool be)) rfl 1 (.slice ae ke ce); replace gxd := (gxd.setB xe rfl 0 (.bool be)).setB (xe.put 0 (.bool be)) rfl 1 (.slice ae ke ce); replace gvn := (gvn.setB xe rfl 0 (.bool be)).setB (xe.put 0 (.bool be)) rfl 1 (.slice ae ke ce); replace gvd := (gvd.setB xe rfl 0 (.bool be)).setB (xe.put 0 (.bool be)) rfl 1 (.slice ae ke ce); replace gd := (gd.setB xe rfl 0 (.bool be)).setB (xe.put 0 (.bool be)) rfl 1 (.slice ae ke ce); replace gn := (gn.setB xe rfl 0 (.bool be)).setB (xe.put 0 (.bool be)) rfl 1 (.slice ae ke ce); replace gk := (gk.setB xe rfl 0 (.bool be)).setB (xe.put 0 (.bool be)) rfl 1 (.slice ae ke ce); replace ge := (ge.setB xe rfl 0 (.bool be)).setB (xe.put 0 (.bool be)) rfl 1 (.slice ae ke ce); replace hM := (hM.setCell (p := ⟨Ae, 0, none⟩) le (.bool be)).setCell (p := ⟨Ae, 1, none⟩) le (.slice ae ke ce)
    replace xe : Bk _ Ae #[.bool be, .slice ae ke ce] 24 := (xe.put 0 (.bool be)).put 1 (.slice ae ke ce)
    clear qx qv qd; replace xx := (xx.put_other Ae 0 (.bool be) (by omega)).put_other Ae 1 (.slice ae ke ce) (by omega); replace xv := (xv.put_other Ae 0 (.bool be) (by omega)).put_other Ae 1 (.slice ae ke ce) (by omega); replace xd := (xd.put_other Ae 0 (.bool be) (by omega)).put_other Ae 1 (.slice ae ke ce) (by omega)
    have qx := xx.lt
    have qv := xv.lt
    have qd := xd.lt
    refine wpAnyH_done (by kernel_rfl) ?_ _
    refine NoPanic.normal ?_
    clear hR6
    go_wp2_with fail
    go_meet
    exact ⟨_, _, _, _, _, _, _, _, _, _, rfl, rfl, xy, xe, gk, ge, by omega, ly, le, hM⟩
  ·
   have nxe : wd.heap.size ≠ w.heap.size := (by have := xx.lt; omega)
   have nve : wd.heap.size ≠ w.heap.size + 1 := (by have := xv.lt; omega)
   have nde : wd.heap.size ≠ w1.heap.size := (by have := xd.lt; omega)
   have hb := (Below.refl wd.heap.size wd).alloc (Nat.le_refl _) (.cells #[.bool false, .slice none 0 0] 24)
   go_simp
   refine hK.out _ _ (⟨keep4 hb qx hR0.1, keep4 hb qv hR0.2.1, (hb.cell (p := ⟨w1.heap.size, 0, none⟩) qd).trans hR0.2.2.1, (hb.cell (p := ⟨w1.heap.size, 1, none⟩) qd).trans hR0.2.2.2⟩) (fun hR1 => ?_)
   clear hK K hR0
   (try simp only [Act.put, sa, List.set])
   have xe := Bk.new wd #[.bool false, .slice none 0 0] 24
   have le := hM.size
   replace xx := xx.on hb; replace xv := xv.on hb; replace xr := xr.on hb; replace xd := xd.on hb; replace gxn := gxn.on hb; replace gxd := gxd.on hb; replace gvn := gvn.on hb; replace gvd := gvd.on hb; replace gd := gd.on hb; replace hM := hM.trans (hb.mono hM.size); clear hb qx qv qd
   generalize hA : wd.heap.size = Ae at *
   generalize wd.alloc (.cells #[.bool false, .slice none 0 0] 24) = wc26 at *
   clear hA
   have qx := xx.lt
   have qv := xv.lt
   have qd := xd.lt
   refine rd2 (i := 4) (j := 10) (by kernel_rfl) rfl rfl (fun K hK => ?_) (fun K hK => ?_)
   ·
    go_simp
    go_at_call 118; refine (HP2.out _ _ _ gxn gvd).mono ?_; rintro e wc27 ⟨⟨v2, rfl, gn⟩, hb⟩; obtain ⟨bn, an, kn, cn, rfl⟩ := gn.opened; replace xx := xx.on hb; replace xv := xv.on hb; replace xr := xr.on hb; replace xd := xd.on hb; replace xe := xe.on hb; replace gxn := gxn.on hb; replace gxd := gxd.on hb; replace gvn := gvn.on hb; replace gvd := gvd.on hb; replace gd := gd.on hb; replace hM := hM.trans (hb.mono hM.size)
    (try go_wp2_with fail)
    refine hK.out _ _ (⟨keep4 hb qx hR1.1, keep4 hb qv hR1.2.1, (hb.cell (p := ⟨w1.heap.size, 0, none⟩) qd).trans hR1.2.2.1, (hb.cell (p := ⟨w1.heap.size, 1, none⟩) qd).trans hR1.2.2.2⟩) (fun hR2 => ?_)
    clear hK K hR1
    (try simp only [Act.put, sa, List.set])
    clear hb qx qv qd
    have qx := xx.lt
    have qv := xv.lt
    have qd := xd.lt
    refine rd2 (i := 6) (j := 10) (by kernel_rfl) rfl rfl (fun K hK => ?_) (fun K hK => ?_)
    ·
     go_simp
     go_at_call 141; refine (HFl.out _ _ _ gn gd).mono ?_; rintro e wc28 ⟨⟨v3, v4, rfl, gk, ge⟩, hb⟩; obtain ⟨bk, ak, kk, ck, rfl⟩ := gk.opened; obtain ⟨be, ae, ke, ce, rfl⟩ := ge.opened; replace xx := xx.on hb; replace xv := xv.on hb; replace xr := xr.on hb; replace xd := xd.on hb; replace xe := xe.on hb; replace gxn := gxn.on hb; replace gxd := gxd.on hb; replace gvn := gvn.on hb; replace gvd := gvd.on hb; replace gd := gd.on hb; replace gn := gn.on hb; replace hM := hM.trans (hb.mono hM.size)
     (try go_wp2_with fail)
     refine hK.out _ _ (⟨keep4 hb qx hR2.1, keep4 hb qv hR2.2.1, (hb.cell (p := ⟨w1.heap.size, 0, none⟩) qd).trans hR2.2.2.1, (hb.cell (p := ⟨w1.heap.size, 1, none⟩) qd).trans hR2.2.2.2⟩) (fun hR3 => ?_)
     clear hK K hR2
     (try simp only [Act.put, sa, List.set])
     clear hb qx qv qd
     have qx := xx.lt
     have qv := xv.lt
     have qd := xd.lt
     refine tz 7 ?_
     (try simp only [Act.put, sa, List.set])
     refine tz 8 ?_
     (try simp only [Act.put, sa, List.set])
     refine tz 9 ?_
     (try simp only [Act.put, sa, List.set])
     have nxy : wc28.heap.size ≠ w.heap.size := (by have := xx.lt; omega)
     have nvy : wc28.heap.size ≠ w.heap.size + 1 := (by have := xv.lt; omega)
     have ndy : wc28.heap.size ≠ w1.heap.size := (by have := xd.lt; omega)
     have mey : Ae ≠ wc28.heap.size := (by have := xe.lt; omega)
     have hb := (Below.refl wc28.heap.size wc28).alloc (Nat.le_refl _) (.cells #[.bool false, .slice none 0 0] 24)
     refine rz 10 fun K hK => ?_
     go_simp
     refine hK.out _ _ (⟨keep4 hb qx hR3.1, keep4 hb qv hR3.2.1, (hb.cell (p := ⟨w1.heap.size, 0, none⟩) qd).trans hR3.2.2.1, (hb.cell (p := ⟨w1.heap.size, 1, none⟩) qd).trans hR3.2.2.2⟩) (fun hR4 => ?_)
     clear hK K hR3
     (try simp only [Act.put, sa, List.set])
     have xy := Bk.new wc28 #[.bool false, .slice none 0 0] 24
     have ly := hM.size
     replace xx := xx.on hb; replace xv := xv.on hb; replace xr := xr.on hb; replace xd := xd.on hb; replace xe := xe.on hb; replace gxn := gxn.on hb; replace gxd := gxd.on hb; replace gvn := gvn.on hb; replace gvd := gvd.on hb; replace gd := gd.on hb; replace gn := gn.on hb; replace gk := gk.on hb; replace ge := ge.on hb; replace hM := hM.trans (hb.mono hM.size); clear hb qx qv qd
     generalize hA : wc28.heap.size = Ay at *
     generalize wc28.alloc (.cells #[.bool false, .slice none 0 0] 24) = wc29 at *
     clear hA
     have qx := xx.lt
     have qv := xv.lt
     have qd := xd.lt
     have uc0 := xy.cell 0
     have uf0 := xy.free 0
     have uc1 := xy.cell 1
     have uf1 := xy.free 1
     simp only [List.getElem?_toArray, List.getElem?_cons_zero, List.getElem?_cons_succ] at uc0 uc1
     refine rz 12 fun K hK => ?_
     go_simp
     refine hK.out _ _ (⟨⟨cell_store hR4.1.1 nxy, cell_store hR4.1.2.1 nxy, cell_store hR4.1.2.2.1 nxy, cell_store hR4.1.2.2.2 nxy⟩, ⟨cell_store hR4.2.1.1 nvy, cell_store hR4.2.1.2.1 nvy, cell_store hR4.2.1.2.2.1 nvy, cell_store hR4.2.1.2.2.2 nvy⟩, cell_store hR4.2.2.1 ndy, cell_store hR4.2.2.2 ndy⟩) (fun hR5 => ?_)
     clear hK K hR4
     (try simp only [Act.put, sa, List.set])
     clear uc0 uf0 uc1 uf1; replace xe := xe.put_other Ay 0 (.bool bk) (by omega); replace xe := xe.put_other Ay 1 (.slice ak kk ck) (by omega); replace gxn := (gxn.setB xy rfl 0 (.bool bk)).setB (xy.put 0 (.bool bk)) rfl 1 (.slice ak kk ck); replace gxd := (gxd.setB xy rfl 0 (.bool bk)).setB (xy.put 0 (.bool bk)) rfl 1 (.slice ak kk ck); replace gvn := (gvn.setB xy rfl 0 (.bool bk)).setB (xy.put 0 (.bool bk)) rfl 1 (.slice ak kk ck); replace gvd := (gvd.setB xy rfl 0 (.bool bk)).setB (xy.put 0 (.bool bk)) rfl 1 (.slice ak kk ck); replace gd := (gd.setB xy rfl 0 (.bool bk)).setB (xy.put 0 (.bool bk)) rfl 1 (.slice ak kk ck); replace gn := (gn.setB xy rfl 0 (.bool bk)).setB (xy.put 0 (.bool bk)) rfl 1 (.slice ak kk ck); replace gk := (gk.setB xy rfl 0 (.bool bk)).setB (xy.put 0 (.bool bk)) rfl 1 (.slice ak kk ck); replace ge := (ge.setB xy rfl 0 (.bool bk)).setB (xy.put 0 (.bool bk)) rfl 1 (.slice ak kk ck); replace hM := (hM.setCell (p := ⟨Ay, 0, none⟩) ly (.bool bk)).setCell (p := ⟨Ay, 1, none⟩) ly (.slice ak kk ck)
     replace xy : Bk _ Ay #[.bool bk, .slice ak kk ck] 24 := (xy.put 0 (.bool bk)).put 1 (.slice ak kk ck)
     clear qx qv qd; replace xx := (xx.put_other Ay 0 (.bool bk) (by omega)).put_other Ay 1 (.slice ak kk ck) (by omega); replace xv := (xv.put_other Ay 0 (.bool bk) (by omega)).put_other Ay 1 (.slice ak kk ck) (by omega); replace xd := (xd.put_other Ay 0 (.bool bk) (by omega)).put_other Ay 1 (.slice ak kk ck) (by omega)
     have qx := xx.lt
     have qv := xv.lt
     have qd := xd.lt
     have uc0 := xe.cell 0
     have uf0 := xe.free 0
     have uc1 := xe.cell 1
     have uf1 := xe.free 1
     simp only [List.getElem?_toArray, List.getElem?_cons_zero, List.getElem?_cons_succ] at uc0 uc1
     refine rz 13 fun K hK => ?_
     go_simp
     refine hK.out _ _ (⟨⟨cell_store hR5.1.1 nxe, cell_store hR5.1.2.1 nxe, cell_store hR5.1.2.2.1 nxe, cell_store hR5.1.2.2.2 nxe⟩, ⟨cell_store hR5.2.1.1 nve, cell_store hR5.2.1.2.1 nve, cell_store hR5.2.1.2.2.1 nve, cell_store hR5.2.1.2.2.2 nve⟩, cell_store hR5.2.2.1 nde, cell_store hR5.2.2.2 nde⟩) (fun hR6 => ?_)
     clear hK K hR5
     (try simp only [Act.put, sa, List.set])
     clear uc0 uf0 uc1 uf1; replace xy := xy.put_other Ae 0 (.bool be) (by omega); replace xy := xy.put_other Ae 1 (.slice ae ke ce) (by omega); replace gxn := (gxn.setB xe rfl 0 (.bool be)).setB (xe.put 0 (.bool be)) rfl 1 (.slice ae ke ce); replace gxd := (gxd.setB xe rfl 0 (.bool be)).setB (xe.put 0 (.bool be)) rfl 1 (.slice ae ke ce); replace gvn := (gvn.setB xe rfl 0 (.bool be)).setB (xe.put 0 (.bool be)) rfl 1 (.slice ae ke ce); replace gvd := (gvd.setB xe rfl 0 (.bool be)).setB (xe.put 0 (.bool be)) rfl 1 (.slice ae ke ce); replace gd := (gd.setB xe rfl 0 (.bool be)).setB (xe.put 0 (.bool be)) rfl 1 (.slice ae ke ce); replace gn := (gn.setB xe rfl 0 (.bool be)).setB (xe.put 0 (.bool be)) rfl 1 (.slice ae ke ce); replace gk := (gk.setB xe rfl 0 (.bool be)).setB (xe.put 0 (.bool be)) rfl 1 (.slice ae ke ce); replace ge := (ge.setB xe rfl 0 (.bool be)).setB (xe.put 0 (.bool be)) rfl 1 (.slice ae ke ce); replace hM := (hM.setCell (p := ⟨Ae, 0, none⟩) le (.bool be)).setCell (p := ⟨Ae, 1, none⟩) le (.slice ae ke ce)
     replace xe : Bk _ Ae #[.bool be, .slice ae ke ce] 24 := (xe.put 0 (.bool be)).put 1 (.slice ae ke ce)
     clear qx qv qd; replace xx := (xx.put_other Ae 0 (.bool be) (by omega)).put_other Ae 1 (.slice ae ke ce) (by omega); replace xv := (xv.put_other Ae 0 (.bool be) (by omega)).put_other Ae 1 (.slice ae ke ce) (by omega); replace xd := (xd.put_other Ae 0 (.bool be) (by omega)).put_other Ae 1 (.slice ae ke ce) (by omega)
     have qx := xx.lt
     have qv := xv.lt
     have qd := xd.lt
     refine wpAnyH_done (by kernel_rfl) ?_ _
     refine NoPanic.normal ?_
     clear hR6
     go_wp2_with fail
     go_meet
     exact ⟨_, _, _, _, _, _, _, _, _, _, rfl, rfl, xy, xe, gk, ge, by omega, ly, le, hM⟩
    ·
     have nxy : wc27.heap.size ≠ w.heap.size := (by have := xx.lt; omega)
     have nvy : wc27.heap.size ≠ w.heap.size + 1 := (by have := xv.lt; omega)
     have ndy : wc27.heap.size ≠ w1.heap.size := (by have := xd.lt; omega)
     have mey : Ae ≠ wc27.heap.size := (by have := xe.lt; omega)
     have hb := (Below.refl wc27.heap.size wc27).alloc (Nat.le_refl _) (.cells #[.bool false, .slice none 0 0] 24)
     go_simp
     refine hK.out _ _ (⟨keep4 hb qx hR2.1, keep4 hb qv hR2.2.1, (hb.cell (p := ⟨w1.heap.size, 0, none⟩) qd).trans hR2.2.2.1, (hb.cell (p := ⟨w1.heap.size, 1, none⟩) qd).trans hR2.2.2.2⟩) (fun hR3 => ?_)
     clear hK K hR2
     (try simp only [Act.put, sa, List.set])
     have xy := Bk.new wc27 #[.bool false, .slice none 0 0] 24
     have ly := hM.size
     replace xx := xx.on hb; replace xv := xv.on hb; replace xr := xr.on hb; replace xd := xd.on hb; replace xe := xe.on hb; replace gxn := gxn.on hb; replace gxd := gxd.on hb; replace gvn := gvn.on hb; replace gvd := gvd.on hb; replace gd := gd.on hb; replace gn := gn.on hb; replace hM := hM.trans (hb.mono hM.size); clear hb qx qv qd
     generalize hA : wc27.heap.size = Ay at *
     generalize wc27.alloc (.cells #[.bool false, .slice none 0 0] 24) = wc30 at *
     clear hA
     have qx := xx.lt
     have qv := xv.lt
     have qd := xd.lt
     refine rz 6 fun K hK => ?_
     go_simp
     go_at_call 141; refine (HFl.out _ _ _ gn gd).mono ?_; rintro e wc31 ⟨⟨v3, v4, rfl, gk, ge⟩, hb⟩; obtain ⟨bk, ak, kk, ck, rfl⟩ := gk.opened; obtain ⟨be, ae, ke, ce, rfl⟩ := ge.opened; replace xx := xx.on hb; replace xv := xv.on hb; replace xr := xr.on hb; replace xd := xd.on hb; replace xe := xe.on hb; replace xy := xy.on hb; replace gxn := gxn.on hb; replace gxd := gxd.on hb; replace gvn := gvn.on hb; replace gvd := gvd.on hb; replace gd := gd.on hb; replace gn := gn.on hb; replace hM := hM.trans (hb.mono hM.size)
     (try go_wp2_with fail)
     refine hK.out _ _ (⟨keep4 hb qx hR3.1, keep4 hb qv hR3.2.1, (hb.cell (p := ⟨w1.heap.size, 0, none⟩) qd).trans hR3.2.2.1, (hb.cell (p := ⟨w1.heap.size, 1, none⟩) qd).trans hR3.2.2.2⟩) (fun hR4 => ?_)
     clear hK K hR3
     (try simp only [Act.put, sa, List.set])
     clear hb qx qv qd
     have qx := xx.lt
     have qv := xv.lt
     have qd := xd.lt
     refine tz 7 ?_
     (try simp only [Act.put, sa, List.set])
     refine tz 8 ?_
     (try simp only [Act.put, sa, List.set])
     refine tz 9 ?_
     (try simp only [Act.put, sa, List.set])
     have uc0 := xy.cell 0
     have uf0 := xy.free 0
     have uc1 := xy.cell 1
     have uf1 := xy.free 1
     simp only [List.getElem?_toArray, List.getElem?_cons_zero, List.getElem?_cons_succ] at uc0 uc1
     refine rz 12 fun K hK => ?_
     go_simp
     refine hK.out _ _ (⟨⟨cell_store hR4.1.1 nxy, cell_store hR4.1.2.1 nxy, cell_store hR4.1.2.2.1 nxy, cell_store hR4.1.2.2.2 nxy⟩, ⟨cell_store hR4.2.1.1 nvy, cell_store hR4.2.1.2.1 nvy, cell_store hR4.2.1.2.2.1 nvy, cell_store hR4.2.1.2.2.2 nvy⟩, cell_store hR4.2.2.1 ndy, cell_store hR4.2.2.2 ndy⟩) (fun hR5 => ?_)
     clear hK K hR4
     (try simp only [Act.put, sa, List.set])
     clear uc0 uf0 uc1 uf1; replace xe := xe.put_other Ay 0 (.bool bk) (by omega); replace xe := xe.put_other Ay 1 (.slice ak kk ck) (by omega); replace gxn := (gxn.setB xy rfl 0 (.bool bk)).setB (xy.put 0 (.bool bk)) rfl 1 (.slice ak kk ck); replace gxd := (gxd.setB xy rfl 0 (.bool bk)).setB (xy.put 0 (.bool bk)) rfl 1 (.slice ak kk ck); replace gvn := (gvn.setB xy rfl 0 (.bool bk)).setB (xy.put 0 (.bool bk)) rfl 1 (.slice ak kk ck); replace gvd := (gvd.setB xy rfl 0 (.bool bk)).setB (xy.put 0 (.bool bk)) rfl 1 (.slice ak kk ck); replace gd := (gd.setB xy rfl 0 (.bool bk)).setB (xy.put 0 (.bool bk)) rfl 1 (.slice ak kk ck); replace gn := (gn.setB xy rfl 0 (.bool bk)).setB (xy.put 0 (.bool bk)) rfl 1 (.slice ak kk ck); replace gk := (gk.setB xy rfl 0 (.bool bk)).setB (xy.put 0 (.bool bk)) rfl 1 (.slice ak kk ck); replace ge := (ge.setB xy rfl 0 (.bool bk)).setB (xy.put 0 (.bool bk)) rfl 1 (.slice ak kk ck); replace hM := (hM.setCell (p := ⟨Ay, 0, none⟩) ly (.bool bk)).setCell (p := ⟨Ay, 1, none⟩) ly (.slice ak kk ck)
     replace xy : Bk _ Ay #[.bool bk, .slice ak kk ck] 24 := (xy.put 0 (.bool bk)).put 1 (.slice ak kk ck)
     clear qx qv qd; replace xx := (xx.put_other Ay 0 (.bool bk) (by omega)).put_other Ay 1 (.slice ak kk ck) (by omega); replace xv := (xv.put_other Ay 0 (.bool bk) (by omega)).put_other Ay 1 (.slice ak kk ck) (by omega); replace xd := (xd.put_other Ay 0 (.bool bk) (by omega)).put_other Ay 1 (.slice ak kk ck) (by omega)
     have qx := xx.lt
     have qv := xv.lt
     have qd := xd.lt
     have uc0 := xe.cell 0
     have uf0 := xe.free 0
     have uc1 := xe.cell 1
     have uf1 := xe.free 1
     simp only [List.getElem?_toArray, List.getElem?_cons_zero, List.getElem?_cons_succ] at uc0 uc1
     refine rz 13 fun K hK => ?_
     go_simp
     refine hK.out _ _ (⟨⟨cell_store hR5.1.1 nxe, cell_store hR5.1.2.1 nxe, cell_store hR5.1.2.2.1 nxe, cell_store hR5.1.2.2.2 nxe⟩, ⟨cell_store hR5.2.1.1 nve, cell_store hR5.2.1.2.1 nve, cell_store hR5.2.1.2.2.1 nve, cell_store hR5.2.1.2.2.2 nve⟩, cell_store hR5.2.2.1 nde, cell_store hR5.2.2.2 nde⟩) (fun hR6 => ?_)
     clear hK K hR5
     (try simp only [Act.put, sa, List.set])
     clear uc0 uf0 uc1 uf1; replace xy := xy.put_other Ae 0 (.bool be) (by omega); replace xy := xy.put_other Ae 1 (.slice ae ke ce) (by omega); replace gxn := (gxn.setB xe rfl 0 (.bool be)).setB (xe.put 0 (.bool be)) rfl 1 (.slice ae ke ce); replace gxd := (gxd.setB xe rfl 0 (.bool be)).setB (xe.put 0 (.bool be)) rfl 1 (.slice ae ke ce); replace gvn := (gvn.setB xe rfl 0 (.bool be)).setB (xe.put 0 (.bool be)) rfl 1 (.slice ae ke ce); replace gvd := (gvd.setB xe rfl 0 (.bool be)).setB (xe.put 0 (.bool be)) rfl 1 (.slice ae ke ce); replace gd := (gd.setB xe rfl 0 (.bool be)).setB (xe.put 0 (.bool be)) rfl 1 (.slice ae ke ce); replace gn := (gn.setB xe rfl 0 (.bool be)).setB (xe.put 0 (.bool be)) rfl 1 (.slice ae ke ce); replace gk := (gk.setB xe rfl 0 (.bool be)).setB (xe.put 0 (.bool be)) rfl 1 (.slice ae ke ce); replace ge := (ge.setB xe rfl 0 (.bool be)).setB (xe.put 0 (.bool be)) rfl 1 (.slice ae ke ce); replace hM := (hM.setCell (p := ⟨Ae, 0, none⟩) le (.bool be)).setCell (p := ⟨Ae, 1, none⟩) le (.slice ae ke ce)
     replace xe : Bk _ Ae #[.bool be, .slice ae ke ce] 24 := (xe.put 0 (.bool be)).put 1 (.slice ae ke ce)
     clear qx qv qd; replace xx := (xx.put_other Ae 0 (.bool be) (by omega)).put_other Ae 1 (.slice ae ke ce) (by omega); replace xv := (xv.put_other Ae 0 (.bool be) (by omega)).put_other Ae 1 (.slice ae ke ce) (by omega); replace xd := (xd.put_other Ae 0 (.bool be) (by omega)).put_other Ae 1 (.slice ae ke ce) (by omega)
     have qx := xx.lt
     have qv := xv.lt
     have qd := xd.lt
     refine wpAnyH_done (by kernel_rfl) ?_ _
     refine NoPanic.normal ?_
     clear hR6
     go_wp2_with fail
     go_meet
     exact ⟨_, _, _, _, _, _, _, _, _, _, rfl, rfl, xy, xe, gk, ge, by omega, ly, le, hM⟩
   ·
    have nxy : wc26.heap.size ≠ w.heap.size := (by have := xx.lt; omega)
    have nvy : wc26.heap.size ≠ w.heap.size + 1 := (by have := xv.lt; omega)
    have ndy : wc26.heap.size ≠ w1.heap.size := (by have := xd.lt; omega)
    have mey : Ae ≠ wc26.heap.size := (by have := xe.lt; omega)
    have hb := (Below.refl wc26.heap.size wc26).alloc (Nat.le_refl _) (.cells #[.bool false, .slice none 0 0] 24)
    go_simp
    refine hK.out _ _ (⟨keep4 hb qx hR1.1, keep4 hb qv hR1.2.1, (hb.cell (p := ⟨w1.heap.size, 0, none⟩) qd).trans hR1.2.2.1, (hb.cell (p := ⟨w1.heap.size, 1, none⟩) qd).trans hR1.2.2.2⟩) (fun hR2 => ?_)
    clear hK K hR1
    (try simp only [Act.put, sa, List.set])
    have xy := Bk.new wc26 #[.bool false, .slice none 0 0] 24
    have ly := hM.size
    replace xx := xx.on hb; replace xv := xv.on hb; replace xr := xr.on hb; replace xd := xd.on hb; replace xe := xe.on hb; replace gxn := gxn.on hb; replace gxd := gxd.on hb; replace gvn := gvn.on hb; replace gvd := gvd.on hb; replace gd := gd.on hb; replace hM := hM.trans (hb.mono hM.size); clear hb qx qv qd
    generalize hA : wc26.heap.size = Ay at *
    generalize wc26.alloc (.cells #[.bool false, .slice none 0 0] 24) = wc32 at *
    clear hA
    have qx := xx.lt
    have qv := xv.lt
    have qd := xd.lt
    refine rz 4 fun K hK => ?_
    go_simp
    go_at_call 118; refine (HP2.out _ _ _ gxn gvd).mono ?_; rintro e wc33 ⟨⟨v2, rfl, gn⟩, hb⟩; obtain ⟨bn, an, kn, cn, rfl⟩ := gn.opened; replace xx := xx.on hb; replace xv := xv.on hb; replace xr := xr.on hb; replace xd := xd.on hb; replace xe := xe.on hb; replace xy := xy.on hb; replace gxn := gxn.on hb; replace gxd := gxd.on hb; replace gvn := gvn.on hb; replace gvd := gvd.on hb; replace gd := gd.on hb; replace hM := hM.trans (hb.mono hM.size)
    (try go_wp2_with fail)
    refine hK.out _ _ (⟨keep4 hb qx hR2.1, keep4 hb qv hR2.2.1, (hb.cell (p := ⟨w1.heap.size, 0, none⟩) qd).trans hR2.2.2.1, (hb.cell (p := ⟨w1.heap.size, 1, none⟩) qd).trans hR2.2.2.2⟩) (fun hR3 => ?_)
    clear hK K hR2
    (try simp only [Act.put, sa, List.set])
    clear hb qx qv qd
    have qx := xx.lt
    have qv := xv.lt
    have qd := xd.lt
    refine rz 6 fun K hK => ?_
    go_simp
    go_at_call 141; refine (HFl.out _ _ _ gn gd).mono ?_; rintro e wc34 ⟨⟨v3, v4, rfl, gk, ge⟩, hb⟩; obtain ⟨bk, ak, kk, ck, rfl⟩ := gk.opened; obtain ⟨be, ae, ke, ce, rfl⟩ := ge.opened; replace xx := xx.on hb; replace xv := xv.on hb; replace xr := xr.on hb; replace xd := xd.on hb; replace xe := xe.on hb; replace xy := xy.on hb; replace gxn := gxn.on hb; replace gxd := gxd.on hb; replace gvn := gvn.on hb; replace gvd := gvd.on hb; replace gd := gd.on hb; replace gn := gn.on hb; replace hM := hM.trans (hb.mono hM.size)
    (try go_wp2_with fail)
    refine hK.out _ _ (⟨keep4 hb qx hR3.1, keep4 hb qv hR3.2.1, (hb.cell (p := ⟨w1.heap.size, 0, none⟩) qd).trans hR3.2.2.1, (hb.cell (p := ⟨w1.heap.size, 1, none⟩) qd).trans hR3.2.2.2⟩) (fun hR4 => ?_)
    clear hK K hR3
    (try simp only [Act.put, sa, List.set])
    clear hb qx qv qd
    have qx := xx.lt
    have qv := xv.lt
    have qd := xd.lt
    refine tz 7 ?_
    (try simp only [Act.put, sa, List.set])
    refine tz 8 ?_
    (try simp only [Act.put, sa, List.set])
    refine tz 9 ?_
    (try simp only [Act.put, sa, List.set])
    have uc0 := xy.cell 0
    have uf0 := xy.free 0
    have uc1 := xy.cell 1
    have uf1 := xy.free 1
    simp only [List.getElem?_toArray, List.getElem?_cons_zero, List.getElem?_cons_succ] at uc0 uc1
    refine rz 12 fun K hK => ?_
    go_simp
    refine hK.out _ _ (⟨⟨cell_store hR4.1.1 nxy, cell_store hR4.1.2.1 nxy, cell_store hR4.1.2.2.1 nxy, cell_store hR4.1.2.2.2 nxy⟩, ⟨cell_store hR4.2.1.1 nvy, cell_store hR4.2.1.2.1 nvy, cell_store hR4.2.1.2.2.1 nvy, cell_store hR4.2.1.2.2.2 nvy⟩, cell_store hR4.2.2.1 ndy, cell_store hR4.2.2.2 ndy⟩) (fun hR5 => ?_)
    clear hK K hR4
    (try simp only [Act.put, sa, List.set])
    clear uc0 uf0 uc1 uf1; replace xe := xe.put_other Ay 0 (.bool bk) (by omega); replace xe := xe.put_other Ay 1 (.slice ak kk ck) (by omega); replace gxn := (gxn.setB xy rfl 0 (.bool bk)).setB (xy.put 0 (.bool bk)) rfl 1 (.slice ak kk ck); replace gxd := (gxd.setB xy rfl 0 (.bool bk)).setB (xy.put 0 (.bool bk)) rfl 1 (.slice ak kk ck); replace gvn := (gvn.setB xy rfl 0 (.bool bk)).setB (xy.put 0 (.bool bk)) rfl 1 (.slice ak kk ck); replace gvd := (gvd.setB xy rfl 0 (.bool bk)).setB (xy.put 0 (.bool bk)) rfl 1 (.slice ak kk ck); replace gd := (gd.setB xy rfl 0 (.bool bk)).setB (xy.put 0 (.bool bk)) rfl 1 (.slice ak kk ck); replace gn := (gn.setB xy rfl 0 (.bool bk)).setB (xy.put 0 (.bool bk)) rfl 1 (.slice ak kk ck); replace gk := (gk.setB xy rfl 0 (.bool bk)).setB (xy.put 0 (.bool bk)) rfl 1 (.slice ak kk ck); replace ge := (ge.setB xy rfl 0 (.bool bk)).setB (xy.put 0 (.bool bk)) rfl 1 (.slice ak kk ck); replace hM := (hM.setCell (p := ⟨Ay, 0, none⟩) ly (.bool bk)).setCell (p := ⟨Ay, 1, none⟩) ly (.slice ak kk ck)
    replace xy : Bk _ Ay #[.bool bk, .slice ak kk ck] 24 := (xy.put 0 (.bool bk)).put 1 (.slice ak kk ck)
    clear qx qv qd; replace xx := (xx.put_other Ay 0 (.bool bk) (by omega)).put_other Ay 1 (.slice ak kk ck) (by omega); replace xv := (xv.put_other Ay 0 (.bool bk) (by omega)).put_other Ay 1 (.slice ak kk ck) (by omega); replace xd := (xd.put_other Ay 0 (.bool bk) (by omega)).put_other Ay 1 (.slice ak kk ck) (by omega)
    have qx := xx.lt
    have qv := xv.lt
    have qd := xd.lt
    have uc0 := xe.cell 0
    have uf0 := xe.free 0
    have uc1 := xe.cell 1
    have uf1 := xe.free 1
    simp only [List.getElem?_toArray, List.getElem?_cons_zero, List.getElem?_cons_succ] at uc0 uc1
    refine rz 13 fun K hK => ?_
    go_simp
    refine hK.out _ _ (⟨⟨cell_store hR5.1.1 nxe, cell_store hR5.1.2.1 nxe, cell_store hR5.1.2.2.1 nxe, cell_store hR5.1.2.2.2 nxe⟩, ⟨cell_store hR5.2.1.1 nve, cell_store hR5.2.1.2.1 nve, cell_store hR5.2.1.2.2.1 nve, cell_store hR5.2.1.2.2.2 nve⟩, cell_store hR5.2.2.1 nde, cell_store hR5.2.2.2 nde⟩) (fun hR6 => ?_)
    clear hK K hR5
    (try simp only [Act.put, sa, List.set])
    clear uc0 uf0 uc1 uf1; replace xy := xy.put_other Ae 0 (.bool be) (by omega); replace xy := xy.put_other Ae 1 (.slice ae ke ce) (by omega); replace gxn := (gxn.setB xe rfl 0 (.bool be)).setB (xe.put 0 (.bool be)) rfl 1 (.slice ae ke ce); replace gxd := (gxd.setB xe rfl 0 (.bool be)).setB (xe.put 0 (.bool be)) rfl 1 (.slice ae ke ce); replace gvn := (gvn.setB xe rfl 0 (.bool be)).setB (xe.put 0 (.bool be)) rfl 1 (.slice ae ke ce); replace gvd := (gvd.setB xe rfl 0 (.bool be)).setB (xe.put 0 (.bool be)) rfl 1 (.slice ae ke ce); replace gd := (gd.setB xe rfl 0 (.bool be)).setB (xe.put 0 (.bool be)) rfl 1 (.slice ae ke ce); replace gn := (gn.setB xe rfl 0 (.bool be)).setB (xe.put 0 (.bool be)) rfl 1 (.slice ae ke ce); replace gk := (gk.setB xe rfl 0 (.bool be)).setB (xe.put 0 (.bool be)) rfl 1 (.slice ae ke ce); replace ge := (ge.setB xe rfl 0 (.bool be)).setB (xe.put 0 (.bool be)) rfl 1 (.slice ae ke ce); replace hM := (hM.setCell (p := ⟨Ae, 0, none⟩) le (.bool be)).setCell (p := ⟨Ae, 1, none⟩) le (.slice ae ke ce)
    replace xe : Bk _ Ae #[.bool be, .slice ae ke ce] 24 := (xe.put 0 (.bool be)).put 1 (.slice ae ke ce)
    clear qx qv qd; replace xx := (xx.put_other Ae 0 (.bool be) (by omega)).put_other Ae 1 (.slice ae ke ce) (by omega); replace xv := (xv.put_other Ae 0 (.bool be) (by omega)).put_other Ae 1 (.slice ae ke ce) (by omega); replace xd := (xd.put_other Ae 0 (.bool be) (by omega)).put_other Ae 1 (.slice ae ke ce) (by omega)
    have qx := xx.lt
    have qv := xv.lt
    have qd := xd.lt
    refine wpAnyH_done (by kernel_rfl) ?_ _
    refine NoPanic.normal ?_
    clear hR6
    go_wp2_with fail
    go_meet
    exact ⟨_, _, _, _, _, _, _, _, _, _, rfl, rfl, xy, xe, gk, ge, by omega, ly, le, hM⟩
 case rest =>
  obtain ⟨Ay, bk, ak, kk, ck, Ae, be, ae, ke, ce, rfl, rfl, xy, xe, gk, ge, hye, ly, le, hb⟩ := hcut
  obtain ⟨w2, hwc⟩ : ∃ W : World, W = wc := ⟨_, rfl⟩
  subst hwc
  replace ly := Nat.le_trans hB.size ly; replace le := Nat.le_trans hB.size le; replace xx := xx.on hb; replace xv := xv.on hb; replace xr := xr.on hb; replace xd := xd.on hb; replace gxn := gxn.on hb; replace gxd := gxd.on hb; replace gvn := gvn.on hb; replace gvd := gvd.on hb; replace gd := gd.on hb; replace hB := hB.trans (hb.mono hB.size); clear hb gxn gxd gvn gvd xv
  go_wp2_with fail
  go_cut [10] (fun s6 wx => AtN w2 wx s6 (N / D + 1))
  case first =>
   have hM : Below w2.heap.size w2 w2.drew := (Below.refl w2.heap.size w2).drew
   obtain ⟨gy0, gy1⟩ := xy.cells2
   replace gd := gd.below hM (Nat.le_refl _); replace gk := gk.below hM (Nat.le_refl _); replace ge := ge.below hM (Nat.le_refl _); replace xx := xx.on hM; replace xr := xr.on hM; replace xd := xd.on hM; replace xy := xy.on hM; replace xe := xe.on hM
   refine wp_region_noPanic ?_
   refine wp_region_held_drew (S := (fun w' => w'.cell? ⟨Ay, 0, none⟩ = some (.bool bk) ∧ w'.cell? ⟨Ay, 1, none⟩ = some (.slice ak kk ck))) (by kernel_rfl) ⟨gy0, gy1⟩ (fun hR0 => ?_)
   change wpAnyH _ _ _ _ _ 5 #[false, false, false, false, false] _ _
   clear gy0 gy1
   generalize w2.drew = wd at *
   refine tz 0 ?_
   (try simp only [Act.put, sa, List.set])
   have qy := xy.lt
   refine rd2 (i := 1) (j := 3) (by kernel_rfl) rfl rfl (fun K hK => ?_) (fun K hK => ?_)
   ·
    go_simp
    go_at_call 20; refine (HI.out _).mono ?_; rintro e wn ⟨⟨v1, rfl, gi⟩, hb⟩; replace xx := xx.on hb; replace xr := xr.on hb; replace xd := xd.on hb; replace xy := xy.on hb; replace xe := xe.on hb; replace gd := gd.on hb; replace gk := gk.on hb; replace ge := ge.on hb; replace hM := hM.trans (hb.mono hM.size)
    (try go_wp2_with fail)
    refine hK.out _ _ (⟨(hb.cell (p := ⟨Ay, 0, none⟩) qy).trans hR0.1, (hb.cell (p := ⟨Ay, 1, none⟩) qy).trans hR0.2⟩) (fun hR1 => ?_)
    clear hK K hR0
    (try simp only [Act.put, sa, List.set])
    clear hb qy
    have qy := xy.lt
    refine rd2 (i := 2) (j := 3) (by kernel_rfl) rfl rfl (fun K hK => ?_) (fun K hK => ?_)
    ·
     go_simp
     go_at_call 124; refine (HSm.out _ _ _ gk gi).mono ?_; rintro e wq ⟨⟨v2, rfl, gr⟩, hb⟩; obtain ⟨br, ar, kr, cr, rfl⟩ := gr.opened; replace xx := xx.on hb; replace xr := xr.on hb; replace xd := xd.on hb; replace xy := xy.on hb; replace xe := xe.on hb; replace gd := gd.on hb; replace gk := gk.on hb; replace ge := ge.on hb; replace gi := gi.on hb; replace hM := hM.trans (hb.mono hM.size)
     (try go_wp2_with fail)
     refine hK.out _ _ (⟨(hb.cell (p := ⟨Ay, 0, none⟩) qy).trans hR1.1, (hb.cell (p := ⟨Ay, 1, none⟩) qy).trans hR1.2⟩) (fun hR2 => ?_)
     clear hK K hR1
     (try simp only [Act.put, sa, List.set])
     clear hb qy
     have qy := xy.lt
     have ny : wq.heap.size ≠ Ay := (by have := xy.lt; omega)
     have hb := (Below.refl wq.heap.size wq).alloc (Nat.le_refl _) (.cells #[.bool false, .slice none 0 0] 24)
     refine rz 3 fun K hK => ?_
     go_simp
     refine hK.out _ _ (⟨(hb.cell (p := ⟨Ay, 0, none⟩) qy).trans hR2.1, (hb.cell (p := ⟨Ay, 1, none⟩) qy).trans hR2.2⟩) (fun hR3 => ?_)
     clear hK K hR2
     (try simp only [Act.put, sa, List.set])
     have xz := Bk.new wq #[.bool false, .slice none 0 0] 24
     have lz := hM.size
     replace xx := xx.on hb; replace xr := xr.on hb; replace xd := xd.on hb; replace xy := xy.on hb; replace xe := xe.on hb; replace gd := gd.on hb; replace gk := gk.on hb; replace ge := ge.on hb; replace gi := gi.on hb; replace gr := gr.on hb; replace hM := hM.trans (hb.mono hM.size); clear hb qy
     generalize hA : wq.heap.size = AZ at *
     generalize wq.alloc (.cells #[.bool false, .slice none 0 0] 24) = wz at *
     clear hA
     have qy := xy.lt
     have pz := xz.all2
     refine rz 4 fun K hK => ?_
     go_simp
     refine hK.out _ _ (⟨cell_store hR3.1 ny, cell_store hR3.2 ny⟩) (fun hR4 => ?_)
     clear hK K hR3
     (try simp only [Act.put, sa, List.set])
     refine wpAnyH_done (by kernel_rfl) ?_ _
     refine NoPanic.normal ?_
     clear hR4
     go_wp2_with fail
     go_meet
     exact atN_old hM lz xz gr
    ·
     have ny : wn.heap.size ≠ Ay := (by have := xy.lt; omega)
     have hb := (Below.refl wn.heap.size wn).alloc (Nat.le_refl _) (.cells #[.bool false, .slice none 0 0] 24)
     go_simp
     refine hK.out _ _ (⟨(hb.cell (p := ⟨Ay, 0, none⟩) qy).trans hR1.1, (hb.cell (p := ⟨Ay, 1, none⟩) qy).trans hR1.2⟩) (fun hR2 => ?_)
     clear hK K hR1
     (try simp only [Act.put, sa, List.set])
     have xz := Bk.new wn #[.bool false, .slice none 0 0] 24
     have lz := hM.size
     replace xx := xx.on hb; replace xr := xr.on hb; replace xd := xd.on hb; replace xy := xy.on hb; replace xe := xe.on hb; replace gd := gd.on hb; replace gk := gk.on hb; replace ge := ge.on hb; replace gi := gi.on hb; replace hM := hM.trans (hb.mono hM.size); clear hb qy
     generalize hA : wn.heap.size = AZ at *
     generalize wn.alloc (.cells #[.bool false, .slice none 0 0] 24) = wz at *
     clear hA
     have qy := xy.lt
     refine rz 2 fun K hK => ?_
     go_simp
     go_at_call 124; refine (HSm.out _ _ _ gk gi).mono ?_; rintro e wq ⟨⟨v2, rfl, gr⟩, hb⟩; obtain ⟨br, ar, kr, cr, rfl⟩ := gr.opened; replace xx := xx.on hb; replace xr := xr.on hb; replace xd := xd.on hb; replace xy := xy.on hb; replace xe := xe.on hb; replace xz := xz.on hb; replace gd := gd.on hb; replace gk := gk.on hb; replace ge := ge.on hb; replace gi := gi.on hb; replace hM := hM.trans (hb.mono hM.size)
     (try go_wp2_with fail)
     refine hK.out _ _ (⟨(hb.cell (p := ⟨Ay, 0, none⟩) qy).trans hR2.1, (hb.cell (p := ⟨Ay, 1, none⟩) qy).trans hR2.2⟩) (fun hR3 => ?_)
     clear hK K hR2
     (try simp only [Act.put, sa, List.set])
     clear hb qy
     have qy := xy.lt
     have pz := xz.all2
     refine rz 4 fun K hK => ?_
     go_simp
     refine hK.out _ _ (⟨cell_store hR3.1 ny, cell_store hR3.2 ny⟩) (fun hR4 => ?_)
     clear hK K hR3
     (try simp only [Act.put, sa, List.set])
     refine wpAnyH_done (by kernel_rfl) ?_ _
     refine NoPanic.normal ?_
     clear hR4
     go_wp2_with fail
     go_meet
     exact atN_old hM lz xz gr
   ·
    have ny : wd.heap.size ≠ Ay := (by have := xy.lt; omega)
    have hb := (Below.refl wd.heap.size wd).alloc (Nat.le_refl _) (.cells #[.bool false, .slice none 0 0] 24)
    go_simp
    refine hK.out _ _ (⟨(hb.cell (p := ⟨Ay, 0, none⟩) qy).trans hR0.1, (hb.cell (p := ⟨Ay, 1, none⟩) qy).trans hR0.2⟩) (fun hR1 => ?_)
    clear hK K hR0
    (try simp only [Act.put, sa, List.set])
    have xz := Bk.new wd #[.bool false, .slice none 0 0] 24
    have lz := hM.size
    replace xx := xx.on hb; replace xr := xr.on hb; replace xd := xd.on hb; replace xy := xy.on hb; replace xe := xe.on hb; replace gd := gd.on hb; replace gk := gk.on hb; replace ge := ge.on hb; replace hM := hM.trans (hb.mono hM.size); clear hb qy
    generalize hA : wd.heap.size = AZ at *
    generalize wd.alloc (.cells #[.bool false, .slice none 0 0] 24) = wz at *
    clear hA
    have qy := xy.lt
    refine rz 1 fun K hK => ?_
    go_simp
    go_at_call 20; refine (HI.out _).mono ?_; rintro e wn ⟨⟨v1, rfl, gi⟩, hb⟩; replace xx := xx.on hb; replace xr := xr.on hb; replace xd := xd.on hb; replace xy := xy.on hb; replace xe := xe.on hb; replace xz := xz.on hb; replace gd := gd.on hb; replace gk := gk.on hb; replace ge := ge.on hb; replace hM := hM.trans (hb.mono hM.size)
    (try go_wp2_with fail)
    refine hK.out _ _ (⟨(hb.cell (p := ⟨Ay, 0, none⟩) qy).trans hR1.1, (hb.cell (p := ⟨Ay, 1, none⟩) qy).trans hR1.2⟩) (fun hR2 => ?_)
    clear hK K hR1
    (try simp only [Act.put, sa, List.set])
    clear hb qy
    have qy := xy.lt
    refine rz 2 fun K hK => ?_
    go_simp
    go_at_call 124; refine (HSm.out _ _ _ gk gi).mono ?_; rintro e wq ⟨⟨v2, rfl, gr⟩, hb⟩; obtain ⟨br, ar, kr, cr, rfl⟩ := gr.opened; replace xx := xx.on hb; replace xr := xr.on hb; replace xd := xd.on hb; replace xy := xy.on hb; replace xe := xe.on hb; replace xz := xz.on hb; replace gd := gd.on hb; replace gk := gk.on hb; replace ge := ge.on hb; replace gi := gi.on hb; replace hM := hM.trans (hb.mono hM.size)
    (try go_wp2_with fail)
    refine hK.out _ _ (⟨(hb.cell (p := ⟨Ay, 0, none⟩) qy).trans hR2.1, (hb.cell (p := ⟨Ay, 1, none⟩) qy).trans hR2.2⟩) (fun hR3 => ?_)
    clear hK K hR2
    (try simp only [Act.put, sa, List.set])
    clear hb qy
    have qy := xy.lt
    have pz := xz.all2
    refine rz 4 fun K hK => ?_
    go_simp
    refine hK.out _ _ (⟨cell_store hR3.1 ny, cell_store hR3.2 ny⟩) (fun hR4 => ?_)
    clear hK K hR3
    (try simp only [Act.put, sa, List.set])
    refine wpAnyH_done (by kernel_rfl) ?_ _
    refine NoPanic.normal ?_
    clear hR4
    go_wp2_with fail
    go_meet
    exact atN_old hM lz xz gr
  case rest =>
   obtain ⟨AAp, bp, ap, kp, cp, rfl, xp, gp, lAp, hb⟩ := hcut
   obtain ⟨w3, hwc⟩ : ∃ W : World, W = wc := ⟨_, rfl⟩
   subst hwc
   replace lAp := Nat.le_trans hB.size lAp; replace xx := xx.on hb; replace xr := xr.on hb; replace xd := xd.on hb; replace xy := xy.on hb; replace xe := xe.on hb; replace gd := gd.on hb; replace gk := gk.on hb; replace ge := ge.on hb; replace hB := hB.trans (hb.mono hB.size); clear hb
   by_cases h0 : N % D = 0
   ·
    have hk := (num_len ge).1
    rw [h0, show (0 : Int).natAbs = 0 from rfl, dig_zero, List.length_nil] at hk
    subst hk
    have H0 := Lib.hid h0
    clear h0
    have px := xx.all4
    have pr := xr.all2
    have pd := xd.all2
    have py := xy.all2
    have pe := xe.all2
    have pp := xp.all2
    have ltx := xx.lt
    have ltr := xr.lt
    have ltd := xd.lt
    have lty := xy.lt
    have lte := xe.lt
    have ltp := xp.lt
    go_wp2_with fail
    clear ltx ltr ltd lty lte ltp px pr pd py pe pp xx xd xy xe xp gd ge gp; replace gk := gk.setB xr rfl 0 (.bool bk)
    replace xr : Bk _ (w.heap.size + 1 + 1) #[.bool bk, .slice none 0 0] _ := xr.put 0 (.bool bk)
    replace hB := hB.setCell (p := ⟨w.heap.size + 1 + 1, 0, none⟩) (by first | omega | (simp; omega) | simp) (.bool bk); replace gk := gk.setB xr rfl 1 (.slice ak kk ck)
    replace xr : Bk _ (w.heap.size + 1 + 1) #[.bool bk, .slice ak kk ck] _ := xr.put 1 (.slice ak kk ck)
    replace hB := hB.setCell (p := ⟨w.heap.size + 1 + 1, 1, none⟩) (by first | omega | (simp; omega) | simp) (.slice ak kk ck)
    generalize ((w3.setCell ⟨w.heap.size + 1 + 1, 0, none⟩ (.bool bk)).setCell ⟨w.heap.size + 1 + 1, 1, none⟩ (.slice ak kk ck)) = WF at *
    have pr := xr.all2
    have ltr := xr.lt
    exact bodyPost_ret (v := .agg #[.bool bk, .slice ak kk ck]) (by simp [results, Tryz.results119, go_sem, pr]) rfl ⟨⟨_, rfl, by rw [rfac_exact H0.out]; exact gk⟩, hB⟩
   have hk := (num_len ge).1
   have hke : ((ke : Int) == 0) = false := by
    rw [beq_eq_false_iff_ne]; intro e; apply h0
    have h1 : dig (N % D).natAbs = [] := List.eq_nil_of_length_eq_zero (by omega)
    have h2 := (dig_nil_iff _).1 h1; omega
   clear hk
   have H0 := Lib.hid h0
   clear h0
   by_cases hm1t : m = 1 ∧ bx = true
   ·
    obtain ⟨rfl, rfl⟩ := hm1t
    clear hm1 hm6
    have px := xx.all4
    have pr := xr.all2
    have pd := xd.all2
    have py := xy.all2
    have pe := xe.all2
    have pp := xp.all2
    have ltx := xx.lt
    have ltr := xr.lt
    have ltd := xd.lt
    have lty := xy.lt
    have lte := xe.lt
    have ltp := xp.lt
    go_wp2_with fail
    clear ltx ltr ltd lty lte ltp px pr pd py pe pp xx xd xy xe xp gd gk ge; replace gp := gp.setB xr rfl 0 (.bool bp)
    replace xr : Bk _ (w.heap.size + 1 + 1) #[.bool bp, .slice none 0 0] _ := xr.put 0 (.bool bp)
    replace hB := hB.setCell (p := ⟨w.heap.size + 1 + 1, 0, none⟩) (by first | omega | (simp; omega) | simp) (.bool bp); replace gp := gp.setB xr rfl 1 (.slice ap kp cp)
    replace xr : Bk _ (w.heap.size + 1 + 1) #[.bool bp, .slice ap kp cp] _ := xr.put 1 (.slice ap kp cp)
    replace hB := hB.setCell (p := ⟨w.heap.size + 1 + 1, 1, none⟩) (by first | omega | (simp; omega) | simp) (.slice ap kp cp)
    generalize ((w3.setCell ⟨w.heap.size + 1 + 1, 0, none⟩ (.bool bp)).setCell ⟨w.heap.size + 1 + 1, 1, none⟩ (.slice ap kp cp)) = WF at *
    have pr := xr.all2
    have ltr := xr.lt
    exact bodyPost_ret (v := .agg #[.bool bp, .slice ap kp cp]) (by simp [results, Tryz.results119, go_sem, pr]) rfl ⟨⟨_, rfl, by rw [rfac_up H0.out rfl]; exact gp⟩, hB⟩
   by_cases hm1f : m = 1 ∧ bx = false
   ·
    obtain ⟨rfl, rfl⟩ := hm1f
    clear hm1 hm6
    have px := xx.all4
    have pr := xr.all2
    have pd := xd.all2
    have py := xy.all2
    have pe := xe.all2
    have pp := xp.all2
    have ltx := xx.lt
    have ltr := xr.lt
    have ltd := xd.lt
    have lty := xy.lt
    have lte := xe.lt
    have ltp := xp.lt
    go_wp2_with fail
    clear ltx ltr ltd lty lte ltp px pr pd py pe pp xx xd xy xe xp gd ge gp; replace gk := gk.setB xr rfl 0 (.bool bk)
    replace xr : Bk _ (w.heap.size + 1 + 1) #[.bool bk, .slice none 0 0] _ := xr.put 0 (.bool bk)
    replace hB := hB.setCell (p := ⟨w.heap.size + 1 + 1, 0, none⟩) (by first | omega | (simp; omega) | simp) (.bool bk); replace gk := gk.setB xr rfl 1 (.slice ak kk ck)
    replace xr : Bk _ (w.heap.size + 1 + 1) #[.bool bk, .slice ak kk ck] _ := xr.put 1 (.slice ak kk ck)
    replace hB := hB.setCell (p := ⟨w.heap.size + 1 + 1, 1, none⟩) (by first | omega | (simp; omega) | simp) (.slice ak kk ck)
    generalize ((w3.setCell ⟨w.heap.size + 1 + 1, 0, none⟩ (.bool bk)).setCell ⟨w.heap.size + 1 + 1, 1, none⟩ (.slice ak kk ck)) = WF at *
    have pr := xr.all2
    have ltr := xr.lt
    exact bodyPost_ret (v := .agg #[.bool bk, .slice ak kk ck]) (by simp [results, Tryz.results119, go_sem, pr]) rfl ⟨⟨_, rfl, by rw [rfac_down H0.out rfl]; exact gk⟩, hB⟩
   by_cases hm2t : m = 2 ∧ bx = true
   ·
    obtain ⟨rfl, rfl⟩ := hm2t
    clear hm1 hm6
    have px := xx.all4
    have pr := xr.all2
    have pd := xd.all2
    have py := xy.all2
    have pe := xe.all2
    have pp := xp.all2
    have ltx := xx.lt
    have ltr := xr.lt
    have ltd := xd.lt
    have lty := xy.lt
    have lte := xe.lt
    have ltp := xp.lt
    go_wp2_with fail
    clear ltx ltr ltd lty lte ltp px pr pd py pe pp xx xd xy xe xp gd ge gp; replace gk := gk.setB xr rfl 0 (.bool bk)
    replace xr : Bk _ (w.heap.size + 1 + 1) #[.bool bk, .slice none 0 0] _ := xr.put 0 (.bool bk)
    replace hB := hB.setCell (p := ⟨w.heap.size + 1 + 1, 0, none⟩) (by first | omega | (simp; omega) | simp) (.bool bk); replace gk := gk.setB xr rfl 1 (.slice ak kk ck)
    replace xr : Bk _ (w.heap.size + 1 + 1) #[.bool bk, .slice ak kk ck] _ := xr.put 1 (.slice ak kk ck)
    replace hB := hB.setCell (p := ⟨w.heap.size + 1 + 1, 1, none⟩) (by first | omega | (simp; omega) | simp) (.slice ak kk ck)
    generalize ((w3.setCell ⟨w.heap.size + 1 + 1, 0, none⟩ (.bool bk)).setCell ⟨w.heap.size + 1 + 1, 1, none⟩ (.slice ak kk ck)) = WF at *
    have pr := xr.all2
    have ltr := xr.lt
    exact bodyPost_ret (v := .agg #[.bool bk, .slice ak kk ck]) (by simp [results, Tryz.results119, go_sem, pr]) rfl ⟨⟨_, rfl, by rw [rfac_down H0.out rfl]; exact gk⟩, hB⟩
   by_cases hm2f : m = 2 ∧ bx = false
   ·
    obtain ⟨rfl, rfl⟩ := hm2f
    clear hm1 hm6
    have px := xx.all4
    have pr := xr.all2
    have pd := xd.all2
    have py := xy.all2
    have pe := xe.all2
    have pp := xp.all2
    have ltx := xx.lt
    have ltr := xr.lt
    have ltd := xd.lt
    have lty := xy.lt
    have lte := xe.lt
    have ltp := xp.lt
    go_wp2_with fail
    clear ltx ltr ltd lty lte ltp px pr pd py pe pp xx xd xy xe xp gd gk ge; replace gp := gp.setB xr rfl 0 (.bool bp)
    replace xr : Bk _ (w.heap.size + 1 + 1) #[.bool bp, .slice none 0 0] _ := xr.put 0 (.bool bp)
    replace hB := hB.setCell (p := ⟨w.heap.size + 1 + 1, 0, none⟩) (by first | omega | (simp; omega) | simp) (.bool bp); replace gp := gp.setB xr rfl 1 (.slice ap kp cp)
    replace xr : Bk _ (w.heap.size + 1 + 1) #[.bool bp, .slice ap kp cp] _ := xr.put 1 (.slice ap kp cp)
    replace hB := hB.setCell (p := ⟨w.heap.size + 1 + 1, 1, none⟩) (by first | omega | (simp; omega) | simp) (.slice ap kp cp)
    generalize ((w3.setCell ⟨w.heap.size + 1 + 1, 0, none⟩ (.bool bp)).setCell ⟨w.heap.size + 1 + 1, 1, none⟩ (.slice ap kp cp)) = WF at *
    have pr := xr.all2
    have ltr := xr.lt
    exact bodyPost_ret (v := .agg #[.bool bp, .slice ap kp cp]) (by simp [results, Tryz.results119, go_sem, pr]) rfl ⟨⟨_, rfl, by rw [rfac_up H0.out rfl]; exact gp⟩, hB⟩
   by_cases hm3 : m = 3
   ·
    subst hm3
    clear hm1 hm6
    have px := xx.all4
    have pr := xr.all2
    have pd := xd.all2
    have py := xy.all2
    have pe := xe.all2
    have pp := xp.all2
    have ltx := xx.lt
    have ltr := xr.lt
    have ltd := xd.lt
    have lty := xy.lt
    have lte := xe.lt
    have ltp := xp.lt
    go_wp2_with fail
    clear ltx ltr ltd lty lte ltp px pr pd py pe pp xx xd xy xe xp gd ge gp; replace gk := gk.setB xr rfl 0 (.bool bk)
    replace xr : Bk _ (w.heap.size + 1 + 1) #[.bool bk, .slice none 0 0] _ := xr.put 0 (.bool bk)
    replace hB := hB.setCell (p := ⟨w.heap.size + 1 + 1, 0, none⟩) (by first | omega | (simp; omega) | simp) (.bool bk); replace gk := gk.setB xr rfl 1 (.slice ak kk ck)
    replace xr : Bk _ (w.heap.size + 1 + 1) #[.bool bk, .slice ak kk ck] _ := xr.put 1 (.slice ak kk ck)
    replace hB := hB.setCell (p := ⟨w.heap.size + 1 + 1, 1, none⟩) (by first | omega | (simp; omega) | simp) (.slice ak kk ck)
    generalize ((w3.setCell ⟨w.heap.size + 1 + 1, 0, none⟩ (.bool bk)).setCell ⟨w.heap.size + 1 + 1, 1, none⟩ (.slice ak kk ck)) = WF at *
    have pr := xr.all2
    have ltr := xr.lt
    exact bodyPost_ret (v := .agg #[.bool bk, .slice ak kk ck]) (by simp [results, Tryz.results119, go_sem, pr]) rfl ⟨⟨_, rfl, by rw [rfac_down H0.out rfl]; exact gk⟩, hB⟩
   by_cases hm4 : m = 4
   ·
    subst hm4
    clear hm1 hm6
    have px := xx.all4
    have pr := xr.all2
    have pd := xd.all2
    have py := xy.all2
    have pe := xe.all2
    have pp := xp.all2
    have ltx := xx.lt
    have ltr := xr.lt
    have ltd := xd.lt
    have lty := xy.lt
    have lte := xe.lt
    have ltp := xp.lt
    go_wp2_with fail
    clear ltx ltr ltd lty lte ltp px pr pd py pe pp xx xd xy xe xp gd gk ge; replace gp := gp.setB xr rfl 0 (.bool bp)
    replace xr : Bk _ (w.heap.size + 1 + 1) #[.bool bp, .slice none 0 0] _ := xr.put 0 (.bool bp)
    replace hB := hB.setCell (p := ⟨w.heap.size + 1 + 1, 0, none⟩) (by first | omega | (simp; omega) | simp) (.bool bp); replace gp := gp.setB xr rfl 1 (.slice ap kp cp)
    replace xr : Bk _ (w.heap.size + 1 + 1) #[.bool bp, .slice ap kp cp] _ := xr.put 1 (.slice ap kp cp)
    replace hB := hB.setCell (p := ⟨w.heap.size + 1 + 1, 1, none⟩) (by first | omega | (simp; omega) | simp) (.slice ap kp cp)
    generalize ((w3.setCell ⟨w.heap.size + 1 + 1, 0, none⟩ (.bool bp)).setCell ⟨w.heap.size + 1 + 1, 1, none⟩ (.slice ap kp cp)) = WF at *
    have pr := xr.all2
    have ltr := xr.lt
    exact bodyPost_ret (v := .agg #[.bool bp, .slice ap kp cp]) (by simp [results, Tryz.results119, go_sem, pr]) rfl ⟨⟨_, rfl, by rw [rfac_up H0.out rfl]; exact gp⟩, hB⟩
   have hm5 : m = 5 ∨ m = 6 := by cases bx <;> simp at hm1t hm1f hm2t hm2f <;> omega
   clear hm1 hm6 hm1t hm1f hm2t hm2f hm3 hm4
   rcases hm5 with rfl | rfl
   ·
    rcases Int.lt_trichotomy (N % D + N % D) D with ht | ht | ht
    ·
     have ho : cmpI (N % D + N % D) D = -1 := by unfold cmpI; rw [if_pos ht]
     rw [ho] at HOr
     have HT := Lib.hid ht
     clear ht ho
     have px := xx.all4
     have pr := xr.all2
     have pd := xd.all2
     have py := xy.all2
     have pe := xe.all2
     have pp := xp.all2
     have ltx := xx.lt
     have ltr := xr.lt
     have ltd := xd.lt
     have lty := xy.lt
     have lte := xe.lt
     have ltp := xp.lt
     go_wp2_with fail
     clear ltx ltr ltd lty lte ltp px pr pd py pe pp
     obtain ⟨wt, hwt⟩ : ∃ W, W = w3 := ⟨_, rfl⟩
     rw [← hwt] at hB xx xr xd xy xe xp gd gk ge gp ⊢
     clear hwt
     have qe := xe.lt
     have qd := xd.lt
     obtain ⟨ge0, ge1⟩ := xe.cells2
     obtain ⟨gd0, gd1⟩ := xd.cells2
     refine wp_region_noPanic ?_
     refine wp_region_held_drew (S := (fun w' => w'.cell? ⟨Ae, 0, none⟩ = some (.bool be) ∧ w'.cell? ⟨Ae, 1, none⟩ = some (.slice ae ke ce) ∧ w'.cell? ⟨w1.heap.size, 0, none⟩ = some (.bool bd) ∧ w'.cell? ⟨w1.heap.size, 1, none⟩ = some (.slice ad kd cd))) (by kernel_rfl) ⟨ge0, ge1, gd0, gd1⟩ (fun hR0 => ?_)
     change wpAnyH _ _ _ _ _ 6 #[false, false, false, false, false, false] _ _
     clear ge0 ge1 gd0 gd1
     refine tz 0 ?_
     (try simp only [Act.put, sa, List.set])
     refine tz 1 ?_
     (try simp only [Act.put, sa, List.set])
     refine tz 3 ?_
     (try simp only [Act.put, sa, List.set])
     refine rz 2 fun K hK => ?_
     go_simp
     go_at_call 124; have hBd := hB.drew; refine (HS2.out _ _ _ (by exact ge) (by exact ge)).mono ?_; rintro e w4 ⟨⟨v5, rfl, gs⟩, hb⟩; replace hb := (Below.refl wt.heap.size wt).drew.trans hb; obtain ⟨bt2, at2, kt2, ct2, rfl⟩ := gs.opened; replace xx := xx.on hb; replace xr := xr.on hb; replace xd := xd.on hb; replace xy := xy.on hb; replace xe := xe.on hb; replace xp := xp.on hb; replace gd := gd.on hb; replace gk := gk.on hb; replace ge := ge.on hb; replace gp := gp.on hb; replace hB := hB.trans (hb.mono hB.size); have hz4 := hb.size
     (try go_wp2_with fail)
     refine hK.out _ _ (⟨(hb.cell (p := ⟨Ae, 0, none⟩) qe).trans hR0.1, (hb.cell (p := ⟨Ae, 1, none⟩) qe).trans hR0.2.1, (hb.cell (p := ⟨w1.heap.size, 0, none⟩) qd).trans hR0.2.2.1, (hb.cell (p := ⟨w1.heap.size, 1, none⟩) qd).trans hR0.2.2.2⟩) (fun hR1 => ?_)
     clear hK K hR0
     (try simp only [Act.put, sa, List.set])
     replace qe := Nat.lt_of_lt_of_le qe hz4; replace qd := Nat.lt_of_lt_of_le qd hz4; clear hb hBd
     refine rz 4 fun K hK => ?_
     go_simp
     go_at_call 91; have hBd := hB; refine (HOr.out _ _ _ gs gd).mono ?_; rintro e w5 ⟨rfl, hb⟩; replace xx := xx.on hb; replace xr := xr.on hb; replace xd := xd.on hb; replace xy := xy.on hb; replace xe := xe.on hb; replace xp := xp.on hb; replace gd := gd.on hb; replace gk := gk.on hb; replace ge := ge.on hb; replace gp := gp.on hb; replace gs := gs.on hb; replace hB := hB.trans (hb.mono hB.size); have hz5 := hb.size
     (try go_wp2_with fail)
     refine hK.out _ _ (⟨(hb.cell (p := ⟨Ae, 0, none⟩) qe).trans hR1.1, (hb.cell (p := ⟨Ae, 1, none⟩) qe).trans hR1.2.1, (hb.cell (p := ⟨w1.heap.size, 0, none⟩) qd).trans hR1.2.2.1, (hb.cell (p := ⟨w1.heap.size, 1, none⟩) qd).trans hR1.2.2.2⟩) (fun hR2 => ?_)
     clear hK K hR1
     (try simp only [Act.put, sa, List.set])
     replace qe := Nat.lt_of_lt_of_le qe hz5; replace qd := Nat.lt_of_lt_of_le qd hz5; clear hb hBd
     refine tz 5 ?_
     (try simp only [Act.put, sa, List.set])
     refine wpAnyH_done (by kernel_rfl) ?_ _
     refine NoPanic.normal ?_
     clear hR2 qe qd gs ge gd xd xe
     by_cases hk0 : N / D = 0
     ·
      have hk := (num_len gk).1
      rw [hk0, show (0 : Int).natAbs = 0 from rfl, dig_zero, List.length_nil] at hk
      subst hk
      have px := xx.all4
      have pr := xr.all2
      have py := xy.all2
      have pp := xp.all2
      have ltx := xx.lt
      have ltr := xr.lt
      have lty := xy.lt
      have ltp := xp.lt
      go_wp2_with fail
      clear ltx ltr lty ltp px pr py pp xx xy xp gp; replace gk := gk.setB xr rfl 0 (.bool bk)
      replace xr : Bk _ (w.heap.size + 1 + 1) #[.bool bk, .slice none 0 0] _ := xr.put 0 (.bool bk)
      replace hB := hB.setCell (p := ⟨w.heap.size + 1 + 1, 0, none⟩) (by first | omega | (simp; omega) | simp) (.bool bk); replace gk := gk.setB xr rfl 1 (.slice ak 0 ck)
      replace xr : Bk _ (w.heap.size + 1 + 1) #[.bool bk, .slice ak 0 ck] _ := xr.put 1 (.slice ak 0 ck)
      replace hB := hB.setCell (p := ⟨w.heap.size + 1 + 1, 1, none⟩) (by first | omega | (simp; omega) | simp) (.slice ak 0 ck)
      generalize ((w5.setCell ⟨w.heap.size + 1 + 1, 0, none⟩ (.bool bk)).setCell ⟨w.heap.size + 1 + 1, 1, none⟩ (.slice ak 0 ck)) = WF at *
      have pr := xr.all2
      have ltr := xr.lt
      exact bodyPost_ret (v := .agg #[.bool bk, .slice ak 0 ck]) (by simp [results, Tryz.results119, go_sem, pr]) rfl ⟨⟨_, rfl, by rw [rfac_down H0.out (rup5_lt HT.out)]; exact gk⟩, hB⟩
     ·
      obtain ⟨X, o1, rfl, hX, hc, hk1⟩ := num_first gk hk0
      obtain ⟨k1, rfl⟩ : ∃ k1, kk = k1 + 1 := ⟨kk - 1, by omega⟩
      clear hk1
      obtain ⟨x0, hx0⟩ : ∃ n : Nat, n = (N / D).natAbs % 65536 := ⟨_, rfl⟩
      rw [← hx0] at hc
      have hx1 : (x0 : Int) < 65536 := by omega
      clear hx0 hk0
      have px := xx.all4
      have pr := xr.all2
      have py := xy.all2
      have pp := xp.all2
      have ltx := xx.lt
      have ltr := xr.lt
      have lty := xy.lt
      have ltp := xp.lt
      go_wp2_with fail
      clear ltx ltr lty ltp px pr py pp hc hX xx xy xp gp; replace gk := gk.setB xr rfl 0 (.bool bk)
      replace xr : Bk _ (w.heap.size + 1 + 1) #[.bool bk, .slice none 0 0] _ := xr.put 0 (.bool bk)
      replace hB := hB.setCell (p := ⟨w.heap.size + 1 + 1, 0, none⟩) (by first | omega | (simp; omega) | simp) (.bool bk); replace gk := gk.setB xr rfl 1 (.slice (some ⟨X, o1, none⟩) (k1 + 1) ck)
      replace xr : Bk _ (w.heap.size + 1 + 1) #[.bool bk, .slice (some ⟨X, o1, none⟩) (k1 + 1) ck] _ := xr.put 1 (.slice (some ⟨X, o1, none⟩) (k1 + 1) ck)
      replace hB := hB.setCell (p := ⟨w.heap.size + 1 + 1, 1, none⟩) (by first | omega | (simp; omega) | simp) (.slice (some ⟨X, o1, none⟩) (k1 + 1) ck)
      generalize ((w5.setCell ⟨w.heap.size + 1 + 1, 0, none⟩ (.bool bk)).setCell ⟨w.heap.size + 1 + 1, 1, none⟩ (.slice (some ⟨X, o1, none⟩) (k1 + 1) ck)) = WF at *
      have pr := xr.all2
      have ltr := xr.lt
      exact bodyPost_ret (v := .agg #[.bool bk, .slice (some ⟨X, o1, none⟩) (k1 + 1) ck]) (by simp [results, Tryz.results119, go_sem, pr]) rfl ⟨⟨_, rfl, by rw [rfac_down H0.out (rup5_lt HT.out)]; exact gk⟩, hB⟩
    ·
     have ho : cmpI (N % D + N % D) D = 0 := by unfold cmpI; rw [if_neg (by omega), if_neg (by omega)]
     rw [ho] at HOr
     have HT := Lib.hid ht
     clear ht ho
     have px := xx.all4
     have pr := xr.all2
     have pd := xd.all2
     have py := xy.all2
     have pe := xe.all2
     have pp := xp.all2
     have ltx := xx.lt
     have ltr := xr.lt
     have ltd := xd.lt
     have lty := xy.lt
     have lte := xe.lt
     have ltp := xp.lt
     go_wp2_with fail
     clear ltx ltr ltd lty lte ltp px pr pd py pe pp
     obtain ⟨wt, hwt⟩ : ∃ W, W = w3 := ⟨_, rfl⟩
     rw [← hwt] at hB xx xr xd xy xe xp gd gk ge gp ⊢
     clear hwt
     have qe := xe.lt
     have qd := xd.lt
     obtain ⟨ge0, ge1⟩ := xe.cells2
     obtain ⟨gd0, gd1⟩ := xd.cells2
     refine wp_region_noPanic ?_
     refine wp_region_held_drew (S := (fun w' => w'.cell? ⟨Ae, 0, none⟩ = some (.bool be) ∧ w'.cell? ⟨Ae, 1, none⟩ = some (.slice ae ke ce) ∧ w'.cell? ⟨w1.heap.size, 0, none⟩ = some (.bool bd) ∧ w'.cell? ⟨w1.heap.size, 1, none⟩ = some (.slice ad kd cd))) (by kernel_rfl) ⟨ge0, ge1, gd0, gd1⟩ (fun hR0 => ?_)
     change wpAnyH _ _ _ _ _ 6 #[false, false, false, false, false, false] _ _
     clear ge0 ge1 gd0 gd1
     refine tz 0 ?_
     (try simp only [Act.put, sa, List.set])
     refine tz 1 ?_
     (try simp only [Act.put, sa, List.set])
     refine tz 3 ?_
     (try simp only [Act.put, sa, List.set])
     refine rz 2 fun K hK => ?_
     go_simp
     go_at_call 124; have hBd := hB.drew; refine (HS2.out _ _ _ (by exact ge) (by exact ge)).mono ?_; rintro e w4 ⟨⟨v5, rfl, gs⟩, hb⟩; replace hb := (Below.refl wt.heap.size wt).drew.trans hb; obtain ⟨bt2, at2, kt2, ct2, rfl⟩ := gs.opened; replace xx := xx.on hb; replace xr := xr.on hb; replace xd := xd.on hb; replace xy := xy.on hb; replace xe := xe.on hb; replace xp := xp.on hb; replace gd := gd.on hb; replace gk := gk.on hb; replace ge := ge.on hb; replace gp := gp.on hb; replace hB := hB.trans (hb.mono hB.size); have hz4 := hb.size
     (try go_wp2_with fail)
     refine hK.out _ _ (⟨(hb.cell (p := ⟨Ae, 0, none⟩) qe).trans hR0.1, (hb.cell (p := ⟨Ae, 1, none⟩) qe).trans hR0.2.1, (hb.cell (p := ⟨w1.heap.size, 0, none⟩) qd).trans hR0.2.2.1, (hb.cell (p := ⟨w1.heap.size, 1, none⟩) qd).trans hR0.2.2.2⟩) (fun hR1 => ?_)
     clear hK K hR0
     (try simp only [Act.put, sa, List.set])
     replace qe := Nat.lt_of_lt_of_le qe hz4; replace qd := Nat.lt_of_lt_of_le qd hz4; clear hb hBd
     refine rz 4 fun K hK => ?_
     go_simp
     go_at_call 91; have hBd := hB; refine (HOr.out _ _ _ gs gd).mono ?_; rintro e w5 ⟨rfl, hb⟩; replace xx := xx.on hb; replace xr := xr.on hb; replace xd := xd.on hb; replace xy := xy.on hb; replace xe := xe.on hb; replace xp := xp.on hb; replace gd := gd.on hb; replace gk := gk.on hb; replace ge := ge.on hb; replace gp := gp.on hb; replace gs := gs.on hb; replace hB := hB.trans (hb.mono hB.size); have hz5 := hb.size
     (try go_wp2_with fail)
     refine hK.out _ _ (⟨(hb.cell (p := ⟨Ae, 0, none⟩) qe).trans hR1.1, (hb.cell (p := ⟨Ae, 1, none⟩) qe).trans hR1.2.1, (hb.cell (p := ⟨w1.heap.size, 0, none⟩) qd).trans hR1.2.2.1, (hb.cell (p := ⟨w1.heap.size, 1, none⟩) qd).trans hR1.2.2.2⟩) (fun hR2 => ?_)
     clear hK K hR1
     (try simp only [Act.put, sa, List.set])
     replace qe := Nat.lt_of_lt_of_le qe hz5; replace qd := Nat.lt_of_lt_of_le qd hz5; clear hb hBd
     refine tz 5 ?_
     (try simp only [Act.put, sa, List.set])
     refine wpAnyH_done (by kernel_rfl) ?_ _
     refine NoPanic.normal ?_
     clear hR2 qe qd gs ge gd xd xe
     by_cases hk0 : N / D = 0
     ·
      have hk := (num_len gk).1
      rw [hk0, show (0 : Int).natAbs = 0 from rfl, dig_zero, List.length_nil] at hk
      subst hk
      cases bx with
      | true =>
       have px := xx.all4
       have pr := xr.all2
       have py := xy.all2
       have pp := xp.all2
       have ltx := xx.lt
       have ltr := xr.lt
       have lty := xy.lt
       have ltp := xp.lt
       go_wp2_with fail
       clear ltx ltr lty ltp px pr py pp xx xy xp gp; replace gk := gk.setB xr rfl 0 (.bool bk)
       replace xr : Bk _ (w.heap.size + 1 + 1) #[.bool bk, .slice none 0 0] _ := xr.put 0 (.bool bk)
       replace hB := hB.setCell (p := ⟨w.heap.size + 1 + 1, 0, none⟩) (by first | omega | (simp; omega) | simp) (.bool bk); replace gk := gk.setB xr rfl 1 (.slice ak 0 ck)
       replace xr : Bk _ (w.heap.size + 1 + 1) #[.bool bk, .slice ak 0 ck] _ := xr.put 1 (.slice ak 0 ck)
       replace hB := hB.setCell (p := ⟨w.heap.size + 1 + 1, 1, none⟩) (by first | omega | (simp; omega) | simp) (.slice ak 0 ck)
       generalize ((w5.setCell ⟨w.heap.size + 1 + 1, 0, none⟩ (.bool bk)).setCell ⟨w.heap.size + 1 + 1, 1, none⟩ (.slice ak 0 ck)) = WF at *
       have pr := xr.all2
       have ltr := xr.lt
       exact bodyPost_ret (v := .agg #[.bool bk, .slice ak 0 ck]) (by simp [results, Tryz.results119, go_sem, pr]) rfl ⟨⟨_, rfl, by rw [rfac_down H0.out (rup5_eq HT.out)]; exact gk⟩, hB⟩
      | false =>
       have px := xx.all4
       have pr := xr.all2
       have py := xy.all2
       have pp := xp.all2
       have ltx := xx.lt
       have ltr := xr.lt
       have lty := xy.lt
       have ltp := xp.lt
       go_wp2_with fail
       clear ltx ltr lty ltp px pr py pp xx xy xp gk; replace gp := gp.setB xr rfl 0 (.bool bp)
       replace xr : Bk _ (w.heap.size + 1 + 1) #[.bool bp, .slice none 0 0] _ := xr.put 0 (.bool bp)
       replace hB := hB.setCell (p := ⟨w.heap.size + 1 + 1, 0, none⟩) (by first | omega | (simp; omega) | simp) (.bool bp); replace gp := gp.setB xr rfl 1 (.slice ap kp cp)
       replace xr : Bk _ (w.heap.size + 1 + 1) #[.bool bp, .slice ap kp cp] _ := xr.put 1 (.slice ap kp cp)
       replace hB := hB.setCell (p := ⟨w.heap.size + 1 + 1, 1, none⟩) (by first | omega | (simp; omega) | simp) (.slice ap kp cp)
       generalize ((w5.setCell ⟨w.heap.size + 1 + 1, 0, none⟩ (.bool bp)).setCell ⟨w.heap.size + 1 + 1, 1, none⟩ (.slice ap kp cp)) = WF at *
       have pr := xr.all2
       have ltr := xr.lt
       exact bodyPost_ret (v := .agg #[.bool bp, .slice ap kp cp]) (by simp [results, Tryz.results119, go_sem, pr]) rfl ⟨⟨_, rfl, by rw [rfac_up H0.out (rup5_eq HT.out)]; exact gp⟩, hB⟩
     ·
      obtain ⟨X, o1, rfl, hX, hc, hk1⟩ := num_first gk hk0
      obtain ⟨k1, rfl⟩ : ∃ k1, kk = k1 + 1 := ⟨kk - 1, by omega⟩
      clear hk1
      obtain ⟨x0, hx0⟩ : ∃ n : Nat, n = (N / D).natAbs % 65536 := ⟨_, rfl⟩
      rw [← hx0] at hc
      have hx1 : (x0 : Int) < 65536 := by omega
      clear hx0 hk0
      cases bx with
      | true =>
       have px := xx.all4
       have pr := xr.all2
       have py := xy.all2
       have pp := xp.all2
       have ltx := xx.lt
       have ltr := xr.lt
       have lty := xy.lt
       have ltp := xp.lt
       go_wp2_with fail
       clear ltx ltr lty ltp px pr py pp hc hX xx xy xp gp; replace gk := gk.setB xr rfl 0 (.bool bk)
       replace xr : Bk _ (w.heap.size + 1 + 1) #[.bool bk, .slice none 0 0] _ := xr.put 0 (.bool bk)
       replace hB := hB.setCell (p := ⟨w.heap.size + 1 + 1, 0, none⟩) (by first | omega | (simp; omega) | simp) (.bool bk); replace gk := gk.setB xr rfl 1 (.slice (some ⟨X, o1, none⟩) (k1 + 1) ck)
       replace xr : Bk _ (w.heap.size + 1 + 1) #[.bool bk, .slice (some ⟨X, o1, none⟩) (k1 + 1) ck] _ := xr.put 1 (.slice (some ⟨X, o1, none⟩) (k1 + 1) ck)
       replace hB := hB.setCell (p := ⟨w.heap.size + 1 + 1, 1, none⟩) (by first | omega | (simp; omega) | simp) (.slice (some ⟨X, o1, none⟩) (k1 + 1) ck)
       generalize ((w5.setCell ⟨w.heap.size + 1 + 1, 0, none⟩ (.bool bk)).setCell ⟨w.heap.size + 1 + 1, 1, none⟩ (.slice (some ⟨X, o1, none⟩) (k1 + 1) ck)) = WF at *
       have pr := xr.all2
       have ltr := xr.lt
       exact bodyPost_ret (v := .agg #[.bool bk, .slice (some ⟨X, o1, none⟩) (k1 + 1) ck]) (by simp [results, Tryz.results119, go_sem, pr]) rfl ⟨⟨_, rfl, by rw [rfac_down H0.out (rup5_eq HT.out)]; exact gk⟩, hB⟩
      | false =>
       have px := xx.all4
       have pr := xr.all2
       have py := xy.all2
       have pp := xp.all2
       have ltx := xx.lt
       have ltr := xr.lt
       have lty := xy.lt
       have ltp := xp.lt
       go_wp2_with fail
       clear ltx ltr lty ltp px pr py pp hc hX xx xy xp gk; replace gp := gp.setB xr rfl 0 (.bool bp)
       replace xr : Bk _ (w.heap.size + 1 + 1) #[.bool bp, .slice none 0 0] _ := xr.put 0 (.bool bp)
       replace hB := hB.setCell (p := ⟨w.heap.size + 1 + 1, 0, none⟩) (by first | omega | (simp; omega) | simp) (.bool bp); replace gp := gp.setB xr rfl 1 (.slice ap kp cp)
       replace xr : Bk _ (w.heap.size + 1 + 1) #[.bool bp, .slice ap kp cp] _ := xr.put 1 (.slice ap kp cp)
       replace hB := hB.setCell (p := ⟨w.heap.size + 1 + 1, 1, none⟩) (by first | omega | (simp; omega) | simp) (.slice ap kp cp)
       generalize ((w5.setCell ⟨w.heap.size + 1 + 1, 0, none⟩ (.bool bp)).setCell ⟨w.heap.size + 1 + 1, 1, none⟩ (.slice ap kp cp)) = WF at *
       have pr := xr.all2
       have ltr := xr.lt
       exact bodyPost_ret (v := .agg #[.bool bp, .slice ap kp cp]) (by simp [results, Tryz.results119, go_sem, pr]) rfl ⟨⟨_, rfl, by rw [rfac_up H0.out (rup5_eq HT.out)]; exact gp⟩, hB⟩
    ·
     have ho : cmpI (N % D + N % D) D = 1 := by unfold cmpI; rw [if_neg (by omega), if_pos ht]
     rw [ho] at HOr
     have HT := Lib.hid ht
     clear ht ho
     have px := xx.all4
     have pr := xr.all2
     have pd := xd.all2
     have py := xy.all2
     have pe := xe.all2
     have pp := xp.all2
     have ltx := xx.lt
     have ltr := xr.lt
     have ltd := xd.lt
     have lty := xy.lt
     have lte := xe.lt
     have ltp := xp.lt
     go_wp2_with fail
     clear ltx ltr ltd lty lte ltp px pr pd py pe pp
     obtain ⟨wt, hwt⟩ : ∃ W, W = w3 := ⟨_, rfl⟩
     rw [← hwt] at hB xx xr xd xy xe xp gd gk ge gp ⊢
     clear hwt
     have qe := xe.lt
     have qd := xd.lt
     obtain ⟨ge0, ge1⟩ := xe.cells2
     obtain ⟨gd0, gd1⟩ := xd.cells2
     refine wp_region_noPanic ?_
     refine wp_region_held_drew (S := (fun w' => w'.cell? ⟨Ae, 0, none⟩ = some (.bool be) ∧ w'.cell? ⟨Ae, 1, none⟩ = some (.slice ae ke ce) ∧ w'.cell? ⟨w1.heap.size, 0, none⟩ = some (.bool bd) ∧ w'.cell? ⟨w1.heap.size, 1, none⟩ = some (.slice ad kd cd))) (by kernel_rfl) ⟨ge0, ge1, gd0, gd1⟩ (fun hR0 => ?_)
     change wpAnyH _ _ _ _ _ 6 #[false, false, false, false, false, false] _ _
     clear ge0 ge1 gd0 gd1
     refine tz 0 ?_
     (try simp only [Act.put, sa, List.set])
     refine tz 1 ?_
     (try simp only [Act.put, sa, List.set])
     refine tz 3 ?_
     (try simp only [Act.put, sa, List.set])
     refine rz 2 fun K hK => ?_
     go_simp
     go_at_call 124; have hBd := hB.drew; refine (HS2.out _ _ _ (by exact ge) (by exact ge)).mono ?_; rintro e w4 ⟨⟨v5, rfl, gs⟩, hb⟩; replace hb := (Below.refl wt.heap.size wt).drew.trans hb; obtain ⟨bt2, at2, kt2, ct2, rfl⟩ := gs.opened; replace xx := xx.on hb; replace xr := xr.on hb; replace xd := xd.on hb; replace xy := xy.on hb; replace xe := xe.on hb; replace xp := xp.on hb; replace gd := gd.on hb; replace gk := gk.on hb; replace ge := ge.on hb; replace gp := gp.on hb; replace hB := hB.trans (hb.mono hB.size); have hz4 := hb.size
     (try go_wp2_with fail)
     refine hK.out _ _ (⟨(hb.cell (p := ⟨Ae, 0, none⟩) qe).trans hR0.1, (hb.cell (p := ⟨Ae, 1, none⟩) qe).trans hR0.2.1, (hb.cell (p := ⟨w1.heap.size, 0, none⟩) qd).trans hR0.2.2.1, (hb.cell (p := ⟨w1.heap.size, 1, none⟩) qd).trans hR0.2.2.2⟩) (fun hR1 => ?_)
     clear hK K hR0
     (try simp only [Act.put, sa, List.set])
     replace qe := Nat.lt_of_lt_of_le qe hz4; replace qd := Nat.lt_of_lt_of_le qd hz4; clear hb hBd
     refine rz 4 fun K hK => ?_
     go_simp
     go_at_call 91; have hBd := hB; refine (HOr.out _ _ _ gs gd).mono ?_; rintro e w5 ⟨rfl, hb⟩; replace xx := xx.on hb; replace xr := xr.on hb; replace xd := xd.on hb; replace xy := xy.on hb; replace xe := xe.on hb; replace xp := xp.on hb; replace gd := gd.on hb; replace gk := gk.on hb; replace ge := ge.on hb; replace gp := gp.on hb; replace gs := gs.on hb; replace hB := hB.trans (hb.mono hB.size); have hz5 := hb.size
     (try go_wp2_with fail)
     refine hK.out _ _ (⟨(hb.cell (p := ⟨Ae, 0, none⟩) qe).trans hR1.1, (hb.cell (p := ⟨Ae, 1, none⟩) qe).trans hR1.2.1, (hb.cell (p := ⟨w1.heap.size, 0, none⟩) qd).trans hR1.2.2.1, (hb.cell (p := ⟨w1.heap.size, 1, none⟩) qd).trans hR1.2.2.2⟩) (fun hR2 => ?_)
     clear hK K hR1
     (try simp only [Act.put, sa, List.set])
     replace qe := Nat.lt_of_lt_of_le qe hz5; replace qd := Nat.lt_of_lt_of_le qd hz5; clear hb hBd
     refine tz 5 ?_
     (try simp only [Act.put, sa, List.set])
     refine wpAnyH_done (by kernel_rfl) ?_ _
     refine NoPanic.normal ?_
     clear hR2 qe qd gs ge gd xd xe
     by_cases hk0 : N / D = 0
     ·
      have hk := (num_len gk).1
      rw [hk0, show (0 : Int).natAbs = 0 from rfl, dig_zero, List.length_nil] at hk
      subst hk
      have px := xx.all4
      have pr := xr.all2
      have py := xy.all2
      have pp := xp.all2
      have ltx := xx.lt
      have ltr := xr.lt
      have lty := xy.lt
      have ltp := xp.lt
      go_wp2_with fail
      clear ltx ltr lty ltp px pr py pp xx xy xp gk; replace gp := gp.setB xr rfl 0 (.bool bp)
      replace xr : Bk _ (w.heap.size + 1 + 1) #[.bool bp, .slice none 0 0] _ := xr.put 0 (.bool bp)
      replace hB := hB.setCell (p := ⟨w.heap.size + 1 + 1, 0, none⟩) (by first | omega | (simp; omega) | simp) (.bool bp); replace gp := gp.setB xr rfl 1 (.slice ap kp cp)
      replace xr : Bk _ (w.heap.size + 1 + 1) #[.bool bp, .slice ap kp cp] _ := xr.put 1 (.slice ap kp cp)
      replace hB := hB.setCell (p := ⟨w.heap.size + 1 + 1, 1, none⟩) (by first | omega | (simp; omega) | simp) (.slice ap kp cp)
      generalize ((w5.setCell ⟨w.heap.size + 1 + 1, 0, none⟩ (.bool bp)).setCell ⟨w.heap.size + 1 + 1, 1, none⟩ (.slice ap kp cp)) = WF at *
      have pr := xr.all2
      have ltr := xr.lt
      exact bodyPost_ret (v := .agg #[.bool bp, .slice ap kp cp]) (by simp [results, Tryz.results119, go_sem, pr]) rfl ⟨⟨_, rfl, by rw [rfac_up H0.out (rup5_gt HT.out)]; exact gp⟩, hB⟩
     ·
      obtain ⟨X, o1, rfl, hX, hc, hk1⟩ := num_first gk hk0
      obtain ⟨k1, rfl⟩ : ∃ k1, kk = k1 + 1 := ⟨kk - 1, by omega⟩
      clear hk1
      obtain ⟨x0, hx0⟩ : ∃ n : Nat, n = (N / D).natAbs % 65536 := ⟨_, rfl⟩
      rw [← hx0] at hc
      have hx1 : (x0 : Int) < 65536 := by omega
      clear hx0 hk0
      have px := xx.all4
      have pr := xr.all2
      have py := xy.all2
      have pp := xp.all2
      have ltx := xx.lt
      have ltr := xr.lt
      have lty := xy.lt
      have ltp := xp.lt
      go_wp2_with fail
      clear ltx ltr lty ltp px pr py pp hc hX xx xy xp gk; replace gp := gp.setB xr rfl 0 (.bool bp)
      replace xr : Bk _ (w.heap.size + 1 + 1) #[.bool bp, .slice none 0 0] _ := xr.put 0 (.bool bp)
      replace hB := hB.setCell (p := ⟨w.heap.size + 1 + 1, 0, none⟩) (by first | omega | (simp; omega) | simp) (.bool bp); replace gp := gp.setB xr rfl 1 (.slice ap kp cp)
      replace xr : Bk _ (w.heap.size + 1 + 1) #[.bool bp, .slice ap kp cp] _ := xr.put 1 (.slice ap kp cp)
      replace hB := hB.setCell (p := ⟨w.heap.size + 1 + 1, 1, none⟩) (by first | omega | (simp; omega) | simp) (.slice ap kp cp)
      generalize ((w5.setCell ⟨w.heap.size + 1 + 1, 0, none⟩ (.bool bp)).setCell ⟨w.heap.size + 1 + 1, 1, none⟩ (.slice ap kp cp)) = WF at *
      have pr := xr.all2
      have ltr := xr.lt
      exact bodyPost_ret (v := .agg #[.bool bp, .slice ap kp cp]) (by simp [results, Tryz.results119, go_sem, pr]) rfl ⟨⟨_, rfl, by rw [rfac_up H0.out (rup5_gt HT.out)]; exact gp⟩, hB⟩
   ·
    rcases Int.lt_trichotomy (N % D + N % D) D with ht | ht | ht
    ·
     have ho : cmpI (N % D + N % D) D = -1 := by unfold cmpI; rw [if_pos ht]
     rw [ho] at HOr
     have HT := Lib.hid ht
     clear ht ho
     have px := xx.all4
     have pr := xr.all2
     have pd := xd.all2
     have py := xy.all2
     have pe := xe.all2
     have pp := xp.all2
     have ltx := xx.lt
     have ltr := xr.lt
     have ltd := xd.lt
     have lty := xy.lt
     have lte := xe.lt
     have ltp := xp.lt
     go_wp2_with fail
     clear ltx ltr ltd lty lte ltp px pr pd py pe pp
     obtain ⟨wt, hwt⟩ : ∃ W, W = w3 := ⟨_, rfl⟩
     rw [← hwt] at hB xx xr xd xy xe xp gd gk ge gp ⊢
     clear hwt
     have qe := xe.lt
     have qd := xd.lt
     obtain ⟨ge0, ge1⟩ := xe.cells2
     obtain ⟨gd0, gd1⟩ := xd.cells2
     refine wp_region_noPanic ?_
     refine wp_region_held_drew (S := (fun w' => w'.cell? ⟨Ae, 0, none⟩ = some (.bool be) ∧ w'.cell? ⟨Ae, 1, none⟩ = some (.slice ae ke ce) ∧ w'.cell? ⟨w1.heap.size, 0, none⟩ = some (.bool bd) ∧ w'.cell? ⟨w1.heap.size, 1, none⟩ = some (.slice ad kd cd))) (by kernel_rfl) ⟨ge0, ge1, gd0, gd1⟩ (fun hR0 => ?_)
     change wpAnyH _ _ _ _ _ 6 #[false, false, false, false, false, false] _ _
     clear ge0 ge1 gd0 gd1
     refine tz 0 ?_
     (try simp only [Act.put, sa, List.set])
     refine tz 1 ?_
     (try simp only [Act.put, sa, List.set])
     refine tz 3 ?_
     (try simp only [Act.put, sa, List.set])
     refine rz 2 fun K hK => ?_
     go_simp
     go_at_call 124; have hBd := hB.drew; refine (HS2.out _ _ _ (by exact ge) (by exact ge)).mono ?_; rintro e w4 ⟨⟨v5, rfl, gs⟩, hb⟩; replace hb := (Below.refl wt.heap.size wt).drew.trans hb; obtain ⟨bt2, at2, kt2, ct2, rfl⟩ := gs.opened; replace xx := xx.on hb; replace xr := xr.on hb; replace xd := xd.on hb; replace xy := xy.on hb; replace xe := xe.on hb; replace xp := xp.on hb; replace gd := gd.on hb; replace gk := gk.on hb; replace ge := ge.on hb; replace gp := gp.on hb; replace hB := hB.trans (hb.mono hB.size); have hz4 := hb.size
     (try go_wp2_with fail)
     refine hK.out _ _ (⟨(hb.cell (p := ⟨Ae, 0, none⟩) qe).trans hR0.1, (hb.cell (p := ⟨Ae, 1, none⟩) qe).trans hR0.2.1, (hb.cell (p := ⟨w1.heap.size, 0, none⟩) qd).trans hR0.2.2.1, (hb.cell (p := ⟨w1.heap.size, 1, none⟩) qd).trans hR0.2.2.2⟩) (fun hR1 => ?_)
     clear hK K hR0
     (try simp only [Act.put, sa, List.set])
     replace qe := Nat.lt_of_lt_of_le qe hz4; replace qd := Nat.lt_of_lt_of_le qd hz4; clear hb hBd
     refine rz 4 fun K hK => ?_
     go_simp
     go_at_call 91; have hBd := hB; refine (HOr.out _ _ _ gs gd).mono ?_; rintro e w5 ⟨rfl, hb⟩; replace xx := xx.on hb; replace xr := xr.on hb; replace xd := xd.on hb; replace xy := xy.on hb; replace xe := xe.on hb; replace xp := xp.on hb; replace gd := gd.on hb; replace gk := gk.on hb; replace ge := ge.on hb; replace gp := gp.on hb; replace gs := gs.on hb; replace hB := hB.trans (hb.mono hB.size); have hz5 := hb.size
     (try go_wp2_with fail)
     refine hK.out _ _ (⟨(hb.cell (p := ⟨Ae, 0, none⟩) qe).trans hR1.1, (hb.cell (p := ⟨Ae, 1, none⟩) qe).trans hR1.2.1, (hb.cell (p := ⟨w1.heap.size, 0, none⟩) qd).trans hR1.2.2.1, (hb.cell (p := ⟨w1.heap.size, 1, none⟩) qd).trans hR1.2.2.2⟩) (fun hR2 => ?_)
     clear hK K hR1
     (try simp only [Act.put, sa, List.set])
     replace qe := Nat.lt_of_lt_of_le qe hz5; replace qd := Nat.lt_of_lt_of_le qd hz5; clear hb hBd
     refine tz 5 ?_
     (try simp only [Act.put, sa, List.set])
     refine wpAnyH_done (by kernel_rfl) ?_ _
     refine NoPanic.normal ?_
     clear hR2 qe qd gs ge gd xd xe
     by_cases hk0 : N / D = 0
     ·
      have hk := (num_len gk).1
      rw [hk0, show (0 : Int).natAbs = 0 from rfl, dig_zero, List.length_nil] at hk
      subst hk
      have px := xx.all4
      have pr := xr.all2
      have py := xy.all2
      have pp := xp.all2
      have ltx := xx.lt
      have ltr := xr.lt
      have lty := xy.lt
      have ltp := xp.lt
      go_wp2_with fail
      clear ltx ltr lty ltp px pr py pp xx xy xp gp; replace gk := gk.setB xr rfl 0 (.bool bk)
      replace xr : Bk _ (w.heap.size + 1 + 1) #[.bool bk, .slice none 0 0] _ := xr.put 0 (.bool bk)
      replace hB := hB.setCell (p := ⟨w.heap.size + 1 + 1, 0, none⟩) (by first | omega | (simp; omega) | simp) (.bool bk); replace gk := gk.setB xr rfl 1 (.slice ak 0 ck)
      replace xr : Bk _ (w.heap.size + 1 + 1) #[.bool bk, .slice ak 0 ck] _ := xr.put 1 (.slice ak 0 ck)
      replace hB := hB.setCell (p := ⟨w.heap.size + 1 + 1, 1, none⟩) (by first | omega | (simp; omega) | simp) (.slice ak 0 ck)
      generalize ((w5.setCell ⟨w.heap.size + 1 + 1, 0, none⟩ (.bool bk)).setCell ⟨w.heap.size + 1 + 1, 1, none⟩ (.slice ak 0 ck)) = WF at *
      have pr := xr.all2
      have ltr := xr.lt
      exact bodyPost_ret (v := .agg #[.bool bk, .slice ak 0 ck]) (by simp [results, Tryz.results119, go_sem, pr]) rfl ⟨⟨_, rfl, by rw [rfac_down H0.out (rup6_lt HT.out)]; exact gk⟩, hB⟩
     ·
      obtain ⟨X, o1, rfl, hX, hc, hk1⟩ := num_first gk hk0
      obtain ⟨k1, rfl⟩ : ∃ k1, kk = k1 + 1 := ⟨kk - 1, by omega⟩
      clear hk1
      obtain ⟨x0, hx0⟩ : ∃ n : Nat, n = (N / D).natAbs % 65536 := ⟨_, rfl⟩
      rw [← hx0] at hc
      have hx1 : (x0 : Int) < 65536 := by omega
      clear hx0 hk0
      have px := xx.all4
      have pr := xr.all2
      have py := xy.all2
      have pp := xp.all2
      have ltx := xx.lt
      have ltr := xr.lt
      have lty := xy.lt
      have ltp := xp.lt
      go_wp2_with fail
      clear ltx ltr lty ltp px pr py pp hc hX xx xy xp gp; replace gk := gk.setB xr rfl 0 (.bool bk)
      replace xr : Bk _ (w.heap.size + 1 + 1) #[.bool bk, .slice none 0 0] _ := xr.put 0 (.bool bk)
      replace hB := hB.setCell (p := ⟨w.heap.size + 1 + 1, 0, none⟩) (by first | omega | (simp; omega) | simp) (.bool bk); replace gk := gk.setB xr rfl 1 (.slice (some ⟨X, o1, none⟩) (k1 + 1) ck)
      replace xr : Bk _ (w.heap.size + 1 + 1) #[.bool bk, .slice (some ⟨X, o1, none⟩) (k1 + 1) ck] _ := xr.put 1 (.slice (some ⟨X, o1, none⟩) (k1 + 1) ck)
      replace hB := hB.setCell (p := ⟨w.heap.size + 1 + 1, 1, none⟩) (by first | omega | (simp; omega) | simp) (.slice (some ⟨X, o1, none⟩) (k1 + 1) ck)
      generalize ((w5.setCell ⟨w.heap.size + 1 + 1, 0, none⟩ (.bool bk)).setCell ⟨w.heap.size + 1 + 1, 1, none⟩ (.slice (some ⟨X, o1, none⟩) (k1 + 1) ck)) = WF at *
      have pr := xr.all2
      have ltr := xr.lt
      exact bodyPost_ret (v := .agg #[.bool bk, .slice (some ⟨X, o1, none⟩) (k1 + 1) ck]) (by simp [results, Tryz.results119, go_sem, pr]) rfl ⟨⟨_, rfl, by rw [rfac_down H0.out (rup6_lt HT.out)]; exact gk⟩, hB⟩
    ·
     have ho : cmpI (N % D + N % D) D = 0 := by unfold cmpI; rw [if_neg (by omega), if_neg (by omega)]
     rw [ho] at HOr
     have HT := Lib.hid ht
     clear ht ho
     have px := xx.all4
     have pr := xr.all2
     have pd := xd.all2
     have py := xy.all2
     have pe := xe.all2
     have pp := xp.all2
     have ltx := xx.lt
     have ltr := xr.lt
     have ltd := xd.lt
     have lty := xy.lt
     have lte := xe.lt
     have ltp := xp.lt
     go_wp2_with fail
     clear ltx ltr ltd lty lte ltp px pr pd py pe pp
     obtain ⟨wt, hwt⟩ : ∃ W, W = w3 := ⟨_, rfl⟩
     rw [← hwt] at hB xx xr xd xy xe xp gd gk ge gp ⊢
     clear hwt
     have qe := xe.lt
     have qd := xd.lt
     obtain ⟨ge0, ge1⟩ := xe.cells2
     obtain ⟨gd0, gd1⟩ := xd.cells2
     refine wp_region_noPanic ?_
     refine wp_region_held_drew (S := (fun w' => w'.cell? ⟨Ae, 0, none⟩ = some (.bool be) ∧ w'.cell? ⟨Ae, 1, none⟩ = some (.slice ae ke ce) ∧ w'.cell? ⟨w1.heap.size, 0, none⟩ = some (.bool bd) ∧ w'.cell? ⟨w1.heap.size, 1, none⟩ = some (.slice ad kd cd))) (by kernel_rfl) ⟨ge0, ge1, gd0, gd1⟩ (fun hR0 => ?_)
     change wpAnyH _ _ _ _ _ 6 #[false, false, false, false, false, false] _ _
     clear ge0 ge1 gd0 gd1
     refine tz 0 ?_
     (try simp only [Act.put, sa, List.set])
     refine tz 1 ?_
     (try simp only [Act.put, sa, List.set])
     refine tz 3 ?_
     (try simp only [Act.put, sa, List.set])
     refine rz 2 fun K hK => ?_
     go_simp
     go_at_call 124; have hBd := hB.drew; refine (HS2.out _ _ _ (by exact ge) (by exact ge)).mono ?_; rintro e w4 ⟨⟨v5, rfl, gs⟩, hb⟩; replace hb := (Below.refl wt.heap.size wt).drew.trans hb; obtain ⟨bt2, at2, kt2, ct2, rfl⟩ := gs.opened; replace xx := xx.on hb; replace xr := xr.on hb; replace xd := xd.on hb; replace xy := xy.on hb; replace xe := xe.on hb; replace xp := xp.on hb; replace gd := gd.on hb; replace gk := gk.on hb; replace ge := ge.on hb; replace gp := gp.on hb; replace hB := hB.trans (hb.mono hB.size); have hz4 := hb.size
     (try go_wp2_with fail)
     refine hK.out _ _ (⟨(hb.cell (p := ⟨Ae, 0, none⟩) qe).trans hR0.1, (hb.cell (p := ⟨Ae, 1, none⟩) qe).trans hR0.2.1, (hb.cell (p := ⟨w1.heap.size, 0, none⟩) qd).trans hR0.2.2.1, (hb.cell (p := ⟨w1.heap.size, 1, none⟩) qd).trans hR0.2.2.2⟩) (fun hR1 => ?_)
     clear hK K hR0
     (try simp only [Act.put, sa, List.set])
     replace qe := Nat.lt_of_lt_of_le qe hz4; replace qd := Nat.lt_of_lt_of_le qd hz4; clear hb hBd
     refine rz 4 fun K hK => ?_
     go_simp
     go_at_call 91; have hBd := hB; refine (HOr.out _ _ _ gs gd).mono ?_; rintro e w5 ⟨rfl, hb⟩; replace xx := xx.on hb; replace xr := xr.on hb; replace xd := xd.on hb; replace xy := xy.on hb; replace xe := xe.on hb; replace xp := xp.on hb; replace gd := gd.on hb; replace gk := gk.on hb; replace ge := ge.on hb; replace gp := gp.on hb; replace gs := gs.on hb; replace hB := hB.trans (hb.mono hB.size); have hz5 := hb.size
     (try go_wp2_with fail)
     refine hK.out _ _ (⟨(hb.cell (p := ⟨Ae, 0, none⟩) qe).trans hR1.1, (hb.cell (p := ⟨Ae, 1, none⟩) qe).trans hR1.2.1, (hb.cell (p := ⟨w1.heap.size, 0, none⟩) qd).trans hR1.2.2.1, (hb.cell (p := ⟨w1.heap.size, 1, none⟩) qd).trans hR1.2.2.2⟩) (fun hR2 => ?_)
     clear hK K hR1
     (try simp only [Act.put, sa, List.set])
     replace qe := Nat.lt_of_lt_of_le qe hz5; replace qd := Nat.lt_of_lt_of_le qd hz5; clear hb hBd
     refine tz 5 ?_
     (try simp only [Act.put, sa, List.set])
     refine wpAnyH_done (by kernel_rfl) ?_ _
     refine NoPanic.normal ?_
     clear hR2 qe qd gs ge gd xd xe
     by_cases hk0 : N / D = 0
     ·
      have hk := (num_len gk).1
      rw [hk0, show (0 : Int).natAbs = 0 from rfl, dig_zero, List.length_nil] at hk
      subst hk
      have HK := Lib.hid hk0
      clear hk0
      have px := xx.all4
      have pr := xr.all2
      have py := xy.all2
      have pp := xp.all2
      have ltx := xx.lt
      have ltr := xr.lt
      have lty := xy.lt
      have ltp := xp.lt
      go_wp2_with fail
      clear ltx ltr lty ltp px pr py pp xx xy xp gp; replace gk := gk.setB xr rfl 0 (.bool bk)
      replace xr : Bk _ (w.heap.size + 1 + 1) #[.bool bk, .slice none 0 0] _ := xr.put 0 (.bool bk)
      replace hB := hB.setCell (p := ⟨w.heap.size + 1 + 1, 0, none⟩) (by first | omega | (simp; omega) | simp) (.bool bk); replace gk := gk.setB xr rfl 1 (.slice ak 0 ck)
      replace xr : Bk _ (w.heap.size + 1 + 1) #[.bool bk, .slice ak 0 ck] _ := xr.put 1 (.slice ak 0 ck)
      replace hB := hB.setCell (p := ⟨w.heap.size + 1 + 1, 1, none⟩) (by first | omega | (simp; omega) | simp) (.slice ak 0 ck)
      generalize ((w5.setCell ⟨w.heap.size + 1 + 1, 0, none⟩ (.bool bk)).setCell ⟨w.heap.size + 1 + 1, 1, none⟩ (.slice ak 0 ck)) = WF at *
      have pr := xr.all2
      have ltr := xr.lt
      exact bodyPost_ret (v := .agg #[.bool bk, .slice ak 0 ck]) (by simp [results, Tryz.results119, go_sem, pr]) rfl ⟨⟨_, rfl, by rw [rfac_down H0.out ((rup6_eq HT.out).trans (by rw [HK.out]; rfl))]; exact gk⟩, hB⟩
     ·
      obtain ⟨X, o1, rfl, hX, hc, hk1⟩ := num_first gk hk0
      obtain ⟨k1, rfl⟩ : ∃ k1, kk = k1 + 1 := ⟨kk - 1, by omega⟩
      clear hk1
      obtain ⟨x0, hx0⟩ : ∃ n : Nat, n = (N / D).natAbs % 65536 := ⟨_, rfl⟩
      rw [← hx0] at hc
      by_cases hpar : N / D % 2 = 1
      ·
       have hpx : (((x0 : Int) % 2) == 1) = true := by first | (rw [beq_iff_eq]; omega) | (rw [beq_eq_false_iff_ne]; omega)
       have HPR := Lib.hid (decide_eq_true hpar)
       have hx1 : (x0 : Int) < 65536 := by omega
       clear hx0 hpar hk0
       have px := xx.all4
       have pr := xr.all2
       have py := xy.all2
       have pp := xp.all2
       have ltx := xx.lt
       have ltr := xr.lt
       have lty := xy.lt
       have ltp := xp.lt
       go_wp2_with fail
       clear ltx ltr lty ltp px pr py pp hc hX xx xy xp gk; replace gp := gp.setB xr rfl 0 (.bool bp)
       replace xr : Bk _ (w.heap.size + 1 + 1) #[.bool bp, .slice none 0 0] _ := xr.put 0 (.bool bp)
       replace hB := hB.setCell (p := ⟨w.heap.size + 1 + 1, 0, none⟩) (by first | omega | (simp; omega) | simp) (.bool bp); replace gp := gp.setB xr rfl 1 (.slice ap kp cp)
       replace xr : Bk _ (w.heap.size + 1 + 1) #[.bool bp, .slice ap kp cp] _ := xr.put 1 (.slice ap kp cp)
       replace hB := hB.setCell (p := ⟨w.heap.size + 1 + 1, 1, none⟩) (by first | omega | (simp; omega) | simp) (.slice ap kp cp)
       generalize ((w5.setCell ⟨w.heap.size + 1 + 1, 0, none⟩ (.bool bp)).setCell ⟨w.heap.size + 1 + 1, 1, none⟩ (.slice ap kp cp)) = WF at *
       have pr := xr.all2
       have ltr := xr.lt
       exact bodyPost_ret (v := .agg #[.bool bp, .slice ap kp cp]) (by simp [results, Tryz.results119, go_sem, pr]) rfl ⟨⟨_, rfl, by rw [rfac_up H0.out ((rup6_eq HT.out).trans HPR.out)]; exact gp⟩, hB⟩
      ·
       have hpx : (((x0 : Int) % 2) == 1) = false := by first | (rw [beq_iff_eq]; omega) | (rw [beq_eq_false_iff_ne]; omega)
       have HPR := Lib.hid (decide_eq_false hpar)
       have hx1 : (x0 : Int) < 65536 := by omega
       clear hx0 hpar hk0
       have px := xx.all4
       have pr := xr.all2
       have py := xy.all2
       have pp := xp.all2
       have ltx := xx.lt
       have ltr := xr.lt
       have lty := xy.lt
       have ltp := xp.lt
       go_wp2_with fail
       clear ltx ltr lty ltp px pr py pp hc hX xx xy xp gp; replace gk := gk.setB xr rfl 0 (.bool bk)
       replace xr : Bk _ (w.heap.size + 1 + 1) #[.bool bk, .slice none 0 0] _ := xr.put 0 (.bool bk)
       replace hB := hB.setCell (p := ⟨w.heap.size + 1 + 1, 0, none⟩) (by first | omega | (simp; omega) | simp) (.bool bk); replace gk := gk.setB xr rfl 1 (.slice (some ⟨X, o1, none⟩) (k1 + 1) ck)
       replace xr : Bk _ (w.heap.size + 1 + 1) #[.bool bk, .slice (some ⟨X, o1, none⟩) (k1 + 1) ck] _ := xr.put 1 (.slice (some ⟨X, o1, none⟩) (k1 + 1) ck)
       replace hB := hB.setCell (p := ⟨w.heap.size + 1 + 1, 1, none⟩) (by first | omega | (simp; omega) | simp) (.slice (some ⟨X, o1, none⟩) (k1 + 1) ck)
       generalize ((w5.setCell ⟨w.heap.size + 1 + 1, 0, none⟩ (.bool bk)).setCell ⟨w.heap.size + 1 + 1, 1, none⟩ (.slice (some ⟨X, o1, none⟩) (k1 + 1) ck)) = WF at *
       have pr := xr.all2
       have ltr := xr.lt
       exact bodyPost_ret (v := .agg #[.bool bk, .slice (some ⟨X, o1, none⟩) (k1 + 1) ck]) (by simp [results, Tryz.results119, go_sem, pr]) rfl ⟨⟨_, rfl, by rw [rfac_down H0.out ((rup6_eq HT.out).trans HPR.out)]; exact gk⟩, hB⟩
    ·
     have ho : cmpI (N % D + N % D) D = 1 := by unfold cmpI; rw [if_neg (by omega), if_pos ht]
     rw [ho] at HOr
     have HT := Lib.hid ht
     clear ht ho
     have px := xx.all4
     have pr := xr.all2
     have pd := xd.all2
     have py := xy.all2
     have pe := xe.all2
     have pp := xp.all2
     have ltx := xx.lt
     have ltr := xr.lt
     have ltd := xd.lt
     have lty := xy.lt
     have lte := xe.lt
     have ltp := xp.lt
     go_wp2_with fail
     clear ltx ltr ltd lty lte ltp px pr pd py pe pp
     obtain ⟨wt, hwt⟩ : ∃ W, W = w3 := ⟨_, rfl⟩
     rw [← hwt] at hB xx xr xd xy xe xp gd gk ge gp ⊢
     clear hwt
     have qe := xe.lt
     have qd := xd.lt
     obtain ⟨ge0, ge1⟩ := xe.cells2
     obtain ⟨gd0, gd1⟩ := xd.cells2
     refine wp_region_noPanic ?_
     refine wp_region_held_drew (S := (fun w' => w'.cell? ⟨Ae, 0, none⟩ = some (.bool be) ∧ w'.cell? ⟨Ae, 1, none⟩ = some (.slice ae ke ce) ∧ w'.cell? ⟨w1.heap.size, 0, none⟩ = some (.bool bd) ∧ w'.cell? ⟨w1.heap.size, 1, none⟩ = some (.slice ad kd cd))) (by kernel_rfl) ⟨ge0, ge1, gd0, gd1⟩ (fun hR0 => ?_)
     change wpAnyH _ _ _ _ _ 6 #[false, false, false, false, false, false] _ _
     clear ge0 ge1 gd0 gd1
     refine tz 0 ?_
     (try simp only [Act.put, sa, List.set])
     refine tz 1 ?_
     (try simp only [Act.put, sa, List.set])
     refine tz 3 ?_
     (try simp only [Act.put, sa, List.set])
     refine rz 2 fun K hK => ?_
     go_simp
     go_at_call 124; have hBd := hB.drew; refine (HS2.out _ _ _ (by exact ge) (by exact ge)).mono ?_; rintro e w4 ⟨⟨v5, rfl, gs⟩, hb⟩; replace hb := (Below.refl wt.heap.size wt).drew.trans hb; obtain ⟨bt2, at2, kt2, ct2, rfl⟩ := gs.opened; replace xx := xx.on hb; replace xr := xr.on hb; replace xd := xd.on hb; replace xy := xy.on hb; replace xe := xe.on hb; replace xp := xp.on hb; replace gd := gd.on hb; replace gk := gk.on hb; replace ge := ge.on hb; replace gp := gp.on hb; replace hB := hB.trans (hb.mono hB.size); have hz4 := hb.size
     (try go_wp2_with fail)
     refine hK.out _ _ (⟨(hb.cell (p := ⟨Ae, 0, none⟩) qe).trans hR0.1, (hb.cell (p := ⟨Ae, 1, none⟩) qe).trans hR0.2.1, (hb.cell (p := ⟨w1.heap.size, 0, none⟩) qd).trans hR0.2.2.1, (hb.cell (p := ⟨w1.heap.size, 1, none⟩) qd).trans hR0.2.2.2⟩) (fun hR1 => ?_)
     clear hK K hR0
     (try simp only [Act.put, sa, List.set])
     replace qe := Nat.lt_of_lt_of_le qe hz4; replace qd := Nat.lt_of_lt_of_le qd hz4; clear hb hBd
     refine rz 4 fun K hK => ?_
     go_simp
     go_at_call 91; have hBd := hB; refine (HOr.out _ _ _ gs gd).mono ?_; rintro e w5 ⟨rfl, hb⟩; replace xx := xx.on hb; replace xr := xr.on hb; replace xd := xd.on hb; replace xy := xy.on hb; replace xe := xe.on hb; replace xp := xp.on hb; replace gd := gd.on hb; replace gk := gk.on hb; replace ge := ge.on hb; replace gp := gp.on hb; replace gs := gs.on hb; replace hB := hB.trans (hb.mono hB.size); have hz5 := hb.size
     (try go_wp2_with fail)
     refine hK.out _ _ (⟨(hb.cell (p := ⟨Ae, 0, none⟩) qe).trans hR1.1, (hb.cell (p := ⟨Ae, 1, none⟩) qe).trans hR1.2.1, (hb.cell (p := ⟨w1.heap.size, 0, none⟩) qd).trans hR1.2.2.1, (hb.cell (p := ⟨w1.heap.size, 1, none⟩) qd).trans hR1.2.2.2⟩) (fun hR2 => ?_)
     clear hK K hR1
     (try simp only [Act.put, sa, List.set])
     replace qe := Nat.lt_of_lt_of_le qe hz5; replace qd := Nat.lt_of_lt_of_le qd hz5; clear hb hBd
     refine tz 5 ?_
     (try simp only [Act.put, sa, List.set])
     refine wpAnyH_done (by kernel_rfl) ?_ _
     refine NoPanic.normal ?_
     clear hR2 qe qd gs ge gd xd xe
     by_cases hk0 : N / D = 0
     ·
      have hk := (num_len gk).1
      rw [hk0, show (0 : Int).natAbs = 0 from rfl, dig_zero, List.length_nil] at hk
      subst hk
      have px := xx.all4
      have pr := xr.all2
      have py := xy.all2
      have pp := xp.all2
      have ltx := xx.lt
      have ltr := xr.lt
      have lty := xy.lt
      have ltp := xp.lt
      go_wp2_with fail
      clear ltx ltr lty ltp px pr py pp xx xy xp gk; replace gp := gp.setB xr rfl 0 (.bool bp)
      replace xr : Bk _ (w.heap.size + 1 + 1) #[.bool bp, .slice none 0 0] _ := xr.put 0 (.bool bp)
      replace hB := hB.setCell (p := ⟨w.heap.size + 1 + 1, 0, none⟩) (by first | omega | (simp; omega) | simp) (.bool bp); replace gp := gp.setB xr rfl 1 (.slice ap kp cp)
      replace xr : Bk _ (w.heap.size + 1 + 1) #[.bool bp, .slice ap kp cp] _ := xr.put 1 (.slice ap kp cp)
      replace hB := hB.setCell (p := ⟨w.heap.size + 1 + 1, 1, none⟩) (by first | omega | (simp; omega) | simp) (.slice ap kp cp)
      generalize ((w5.setCell ⟨w.heap.size + 1 + 1, 0, none⟩ (.bool bp)).setCell ⟨w.heap.size + 1 + 1, 1, none⟩ (.slice ap kp cp)) = WF at *
      have pr := xr.all2
      have ltr := xr.lt
      exact bodyPost_ret (v := .agg #[.bool bp, .slice ap kp cp]) (by simp [results, Tryz.results119, go_sem, pr]) rfl ⟨⟨_, rfl, by rw [rfac_up H0.out (rup6_gt HT.out)]; exact gp⟩, hB⟩
     ·
      obtain ⟨X, o1, rfl, hX, hc, hk1⟩ := num_first gk hk0
      obtain ⟨k1, rfl⟩ : ∃ k1, kk = k1 + 1 := ⟨kk - 1, by omega⟩
      clear hk1
      obtain ⟨x0, hx0⟩ : ∃ n : Nat, n = (N / D).natAbs % 65536 := ⟨_, rfl⟩
      rw [← hx0] at hc
      have hx1 : (x0 : Int) < 65536 := by omega
      clear hx0 hk0
      have px := xx.all4
      have pr := xr.all2
      have py := xy.all2
      have pp := xp.all2
      have ltx := xx.lt
      have ltr := xr.lt
      have lty := xy.lt
      have ltp := xp.lt
      go_wp2_with fail
      clear ltx ltr lty ltp px pr py pp hc hX xx xy xp gk; replace gp := gp.setB xr rfl 0 (.bool bp)
      replace xr : Bk _ (w.heap.size + 1 + 1) #[.bool bp, .slice none 0 0] _ := xr.put 0 (.bool bp)
      replace hB := hB.setCell (p := ⟨w.heap.size + 1 + 1, 0, none⟩) (by first | omega | (simp; omega) | simp) (.bool bp); replace gp := gp.setB xr rfl 1 (.slice ap kp cp)
      replace xr : Bk _ (w.heap.size + 1 + 1) #[.bool bp, .slice ap kp cp] _ := xr.put 1 (.slice ap kp cp)
      replace hB := hB.setCell (p := ⟨w.heap.size + 1 + 1, 1, none⟩) (by first | omega | (simp; omega) | simp) (.slice ap kp cp)
      generalize ((w5.setCell ⟨w.heap.size + 1 + 1, 0, none⟩ (.bool bp)).setCell ⟨w.heap.size + 1 + 1, 1, none⟩ (.slice ap kp cp)) = WF at *
      have pr := xr.all2
      have ltr := xr.lt
      exact bodyPost_ret (v := .agg #[.bool bp, .slice ap kp cp]) (by simp [results, Tryz.results119, go_sem, pr]) rfl ⟨⟨_, rfl, by rw [rfac_up H0.out (rup6_gt HT.out)]; exact gp⟩, hB⟩
end Go.Proofs.YtmbcnfogjncdaaaGreat
