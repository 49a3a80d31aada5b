/- A part of the proofs about fractions. -/
import Derived.Test.YtmbcnfogjncdaaaGreatQFl1
import Derived.Test.YtmbcnfogjncdaaaGreatQFl27
import Derived.Test.YtmbcnfogjncdaaaGreatQFl30
set_option maxRecDepth 100000
set_option maxHeartbeats 4000000
namespace Go.Proofs.YtmbcnfogjncdaaaGreat
open Go.RowKit Wh
theorem AnsF.setB {W : World} {t : Option Rat} {cd c : Int} {v : Value} {X : Nat} {C : Array Value} {T : TypeId} (h : AnsF W t cd v c) (hx : Bk W X C T) (hC : noInt C = true) (i : Nat) (u : Value) : AnsF (W.setCell ⟨X, i, none⟩ u) t cd v c := by
 rcases h with ⟨z, h1, h2, h3⟩ | h
 · exact .inl ⟨z, h1, h2, h3.setB hx hC i u⟩
 · exact .inr h
theorem AnsF.setB4 {W : World} {t : Option Rat} {cd c : Int} {v : Value} {X : Nat} {C : Array Value} {T : TypeId} (h : AnsF W t cd v c) (hx : Bk W X C T) (hC : noInt C = true) (v0 v1 v2 v3 : Value) (hV : noInt #[v0, v1, v2, v3] = true) : AnsF ((((W.setCell ⟨X, 0, none⟩ v0).setCell ⟨X, 1, none⟩ v1).setCell ⟨X, 2, none⟩ v2).setCell ⟨X, 3, none⟩ v3) t cd v c := by
 rcases h with ⟨z, h1, h2, h3⟩ | h
 · exact .inl ⟨z, h1, h2, h3.setB4 hx hC v0 v1 v2 v3 hV⟩
 · exact .inr h
def fitF (z : Rat) : Option Rat := if (dig z.num.natAbs).length ≤ 256 ∧ (dig z.den).length ≤ 256 then some z else none
theorem fitF_fz {z : Rat} (h : Fz 256 256 z) : fitF z = some z := if_pos ⟨h.1, by have := h.2; unfold Sz at this; rwa [Int.natAbs_natCast] at this⟩
theorem fitF_not {z : Rat} (h : ¬ Fz 256 256 z) : fitF z = none := if_neg fun g => h ⟨g.1, by unfold Sz; rw [Int.natAbs_natCast]; exact g.2⟩
theorem told_ans (v : Value) (z : Rat) (w : World) (h : Fra w v z) : Calls Tryz.prog 85 #[v] w fun e w' => (∃ u c, e = .returned (.tuple #[u, .int .i64 c]) ∧ AnsF w' (fitF z) 3 u c) ∧ Below w.heap.size w w' := by
 obtain ⟨b, a, k, c, d, e, l, m, rfl⟩ := h.opened
 obtain ⟨e1, e2⟩ := fra_lens h
 cases hf : (decide (k ≤ 256) && decide (l ≤ 256)) with
 | true =>
  refine (ref2told_ok b a k c d e l m hf w).mono ?_
  rintro e w' ⟨rfl, hb⟩
  simp only [Bool.and_eq_true, decide_eq_true_eq] at hf
  exact ⟨⟨_, _, rfl, .inl ⟨z, by unfold fitF; rw [if_pos ⟨by omega, by omega⟩], rfl, h.below hb (Nat.le_refl _)⟩⟩, hb⟩
 | false =>
  refine (ref2told_long b a k c d e l m hf w).mono ?_
  rintro e w' ⟨rfl, hb⟩
  rw [Bool.and_eq_false_iff, decide_eq_false_iff_not, decide_eq_false_iff_not] at hf
  exact ⟨⟨_, _, rfl, .inr ⟨by unfold fitF; rw [if_neg (by omega)], rfl, rfl⟩⟩, hb⟩
theorem ref2Times_raw (bx : Bool) (ax : Option Addr) (kx cx : Nat) (dx : Bool) (ex : Option Addr) (lx mx : Nat) (bv : Bool) (av : Option Addr) (kv cv : Nat) (dv : Bool) (ev : Option Addr) (lv mv : Nat) (q u : Rat) (sq : Fz 2000 2000 q) (su : Fz 2000 2000 u) (w : World) (gx : Fra w (.agg #[.bool bx, .slice ax kx cx, .bool dx, .slice ex lx mx]) q) (gv : Fra w (.agg #[.bool bv, .slice av kv cv, .bool dv, .slice ev lv mv]) u) :
  Calls Tryz.prog 120 #[.agg #[.bool bx, .slice ax kx cx, .bool dx, .slice ex lx mx], .agg #[.bool bv, .slice av kv cv, .bool dv, .slice ev lv mv]] w fun e w' => (∃ v, e = .returned v ∧ Fra w' v (q * u)) ∧ Below w.heap.size w w' := by
 obtain ⟨-, -, gxn, gxd⟩ := fra_nums gx
 obtain ⟨-, -, gvn, gvd⟩ := fra_nums gv
 have HP := Lib.hid (fun va vb W (h : Num W va q.num) (g : Num W vb u.num) => refProduct_num va vb q.num u.num (Nat.le_trans sq.1 (by decide)) (Nat.le_trans su.1 (by decide)) W h g)
 have HQ := Lib.hid (fun va vb W (h : Num W va (q.den : Int)) (g : Num W vb (u.den : Int)) => refProduct_num va vb (q.den : Int) (u.den : Int) (Nat.le_trans sq.2 (by decide)) (Nat.le_trans su.2 (by decide)) W h g)
 have sn : Sz 4000 (q.num * u.num) := Sz.mul sq.1 su.1
 have sd : Sz 4000 ((q.den : Int) * (u.den : Int)) := Sz.mul sq.2 su.2
 have hne : (q.den : Int) * (u.den : Int) ≠ 0 := dd_ne q u
 have HL := Lib.hid (fun va vb W (h : Num W va (q.num * u.num)) (g : Num W vb ((q.den : Int) * (u.den : Int))) => Low2_num va vb (q.num * u.num) ((q.den : Int) * (u.den : Int)) (Nat.le_trans sn (by decide)) (Nat.le_trans sd (by decide)) hne W h g)
 rw [← Fq.mul_eq q u] at HL
 clear sn sd hne sq su gx gv
 have hB := Below.refl w.heap.size w
 obtain ⟨al, xx, hN⟩ := mk hB #[.bool bx, .slice ax kx cx, .bool dx, .slice ex lx mx] 39
 replace gxn := gxn.on al; replace gxd := gxd.on al; replace gvn := gvn.on al; replace gvd := gvd.on al; replace hB := hN; clear al hN
 try simp only [World.size_alloc] at xx
 obtain ⟨al, xv, hN⟩ := mk hB #[.bool bv, .slice av kv cv, .bool dv, .slice ev lv mv] 39
 replace xx := xx.on al; replace gxn := gxn.on al; replace gxd := gxd.on al; replace gvn := gvn.on al; replace gvd := gvd.on al; replace hB := hN; clear al hN
 try simp only [World.size_alloc] at xv
 obtain ⟨al, xr, hN⟩ := mk hB #[.bool false, .slice none 0 0, .bool false, .slice none 0 0] 39
 replace xx := xx.on al; replace xv := xv.on al; replace gxn := gxn.on al; replace gxd := gxd.on al; replace gvn := gvn.on al; replace gvd := gvd.on al; replace hB := hN; clear al hN
 try simp only [World.size_alloc] at xr
 go_enter Tryz.func120, Tryz.ntmps120
 have px := xx.all4
 have pv := xv.all4
 have pr := xr.all4
 have ltx := xx.lt
 have ltv := xv.lt
 have ltr := xr.lt
 go_wp2_with fail
 clear ltx ltv ltr px pv pr
 obtain ⟨wa, hwa⟩ : ∃ W, W = (((w.alloc (.cells #[.bool bx, .slice ax kx cx, .bool dx, .slice ex lx mx] 39)).alloc (.cells #[.bool bv, .slice av kv cv, .bool dv, .slice ev lv mv] 39)).alloc (.cells #[.bool false, .slice none 0 0, .bool false, .slice none 0 0] 39)) := ⟨_, rfl⟩
 rw [← hwa] at hB xx xv xr gxn gxd gvn gvd ⊢
 clear hwa
 have qx := xx.lt
 have qv := xv.lt
 obtain ⟨gx0, gx1, gx2, gx3⟩ := xx.cells4
 obtain ⟨gv0, gv1, gv2, gv3⟩ := xv.cells4
 refine wp_region_noPanic ?_
 refine wp_region_held_drew (S := (fun w' => (w'.cell? ⟨w.heap.size, 0, none⟩ = some (.bool bx) ∧ w'.cell? ⟨w.heap.size, 1, none⟩ = some (.slice ax kx cx) ∧ w'.cell? ⟨w.heap.size, 2, none⟩ = some (.bool dx) ∧ w'.cell? ⟨w.heap.size, 3, none⟩ = some (.slice ex lx mx)) ∧ w'.cell? ⟨w.heap.size + 1, 0, none⟩ = some (.bool bv) ∧ w'.cell? ⟨w.heap.size + 1, 1, none⟩ = some (.slice av kv cv) ∧ w'.cell? ⟨w.heap.size + 1, 2, none⟩ = some (.bool dv) ∧ w'.cell? ⟨w.heap.size + 1, 3, none⟩ = some (.slice ev lv mv))) (by kernel_rfl) ⟨⟨gx0, gx1, gx2, gx3⟩, ⟨gv0, gv1, gv2, gv3⟩⟩ (fun hR0 => ?_)
 change wpAnyH _ _ _ _ _ 12 #[false, false, false, false, false, false, false, false, false, false, false, false] _ _
 clear gx0 gx1 gx2 gx3 gv0 gv1 gv2 gv3
 refine tz 0 ?_
 (try simp only [Act.put, sa, List.set])
 refine tz 1 ?_
 (try simp only [Act.put, sa, List.set])
 refine tz 2 ?_
 (try simp only [Act.put, sa, List.set])
 refine tz 3 ?_
 (try simp only [Act.put, sa, List.set])
 refine tz 5 ?_
 (try simp only [Act.put, sa, List.set])
 refine tz 6 ?_
 (try simp only [Act.put, sa, List.set])
 refine tz 7 ?_
 (try simp only [Act.put, sa, List.set])
 refine tz 8 ?_
 (try simp only [Act.put, sa, List.set])
 refine rz 4 fun K hK => ?_
 go_simp
 go_at_call 118; have hBd := hB.drew; refine (HP.out _ _ _ (by exact gxn) (by exact gvn)).mono ?_; rintro e w1 ⟨⟨v1, rfl, g1⟩, hb⟩; replace hb := (Below.refl wa.heap.size wa).drew.trans hb; replace xx := xx.on hb; replace xv := xv.on hb; replace xr := xr.on hb; replace gxn := gxn.on hb; replace gxd := gxd.on hb; replace gvn := gvn.on hb; replace gvd := gvd.on hb; replace hB := hB.trans (hb.mono hB.size); have hz1 := hb.size
 (try go_wp2_with fail)
 refine hK.out _ _ (⟨keep4 hb qx hR0.1, keep4 hb qv hR0.2⟩) (fun hR1 => ?_)
 clear hK K hR0
 (try simp only [Act.put, sa, List.set])
 replace qx := Nat.lt_of_lt_of_le qx hz1; replace qv := Nat.lt_of_lt_of_le qv hz1; clear hb hBd
 refine rz 9 fun K hK => ?_
 go_simp
 go_at_call 118; have hBd := hB; refine (HQ.out _ _ _ gxd gvd).mono ?_; rintro e w2 ⟨⟨v2, rfl, g2⟩, hb⟩; replace xx := xx.on hb; replace xv := xv.on hb; replace xr := xr.on hb; replace gxn := gxn.on hb; replace gxd := gxd.on hb; replace gvn := gvn.on hb; replace gvd := gvd.on hb; replace g1 := g1.on hb; replace hB := hB.trans (hb.mono hB.size); have hz2 := hb.size
 (try go_wp2_with fail)
 refine hK.out _ _ (⟨keep4 hb qx hR1.1, keep4 hb qv hR1.2⟩) (fun hR2 => ?_)
 clear hK K hR1
 (try simp only [Act.put, sa, List.set])
 replace qx := Nat.lt_of_lt_of_le qx hz2; replace qv := Nat.lt_of_lt_of_le qv hz2; clear hb hBd
 refine rz 10 fun K hK => ?_
 go_simp
 go_at_call 86; have hBd := hB; refine (HL.out _ _ _ g1 g2).mono ?_; rintro e w3 ⟨⟨v3, rfl, gy⟩, hb⟩; obtain ⟨bg, ag, kg, cg, dg, eg, lg, mg, rfl⟩ := gy.opened; replace xx := xx.on hb; replace xv := xv.on hb; replace xr := xr.on hb; replace gxn := gxn.on hb; replace gxd := gxd.on hb; replace gvn := gvn.on hb; replace gvd := gvd.on hb; replace g1 := g1.on hb; replace g2 := g2.on hb; replace hB := hB.trans (hb.mono hB.size); have hz3 := hb.size
 (try go_wp2_with fail)
 refine hK.out _ _ (⟨keep4 hb qx hR2.1, keep4 hb qv hR2.2⟩) (fun hR3 => ?_)
 clear hK K hR2
 (try simp only [Act.put, sa, List.set])
 replace qx := Nat.lt_of_lt_of_le qx hz3; replace qv := Nat.lt_of_lt_of_le qv hz3; clear hb hBd
 have pr := xr.all4
 refine rz 11 fun K hK => ?_
 go_simp
 refine hK.out _ _ (⟨stay4 hR3.1 (by omega), stay4 hR3.2 (by omega)⟩) (fun hR4 => ?_)
 clear hK K hR3
 (try simp only [Act.put, sa, List.set])
 clear pr; replace gxn := gxn.setB4 xr rfl (.bool bg) (.slice ag kg cg) (.bool dg) (.slice eg lg mg) rfl; replace gxd := gxd.setB4 xr rfl (.bool bg) (.slice ag kg cg) (.bool dg) (.slice eg lg mg) rfl; replace gvn := gvn.setB4 xr rfl (.bool bg) (.slice ag kg cg) (.bool dg) (.slice eg lg mg) rfl; replace gvd := gvd.setB4 xr rfl (.bool bg) (.slice ag kg cg) (.bool dg) (.slice eg lg mg) rfl; replace g1 := g1.setB4 xr rfl (.bool bg) (.slice ag kg cg) (.bool dg) (.slice eg lg mg) rfl; replace g2 := g2.setB4 xr rfl (.bool bg) (.slice ag kg cg) (.bool dg) (.slice eg lg mg) rfl; replace gy := gy.setB4 xr rfl (.bool bg) (.slice ag kg cg) (.bool dg) (.slice eg lg mg) rfl; replace xx := xx.put_other4 (w.heap.size + 1 + 1) (.bool bg) (.slice ag kg cg) (.bool dg) (.slice eg lg mg) (by omega); replace xv := xv.put_other4 (w.heap.size + 1 + 1) (.bool bg) (.slice ag kg cg) (.bool dg) (.slice eg lg mg) (by omega); replace xr := xr.put4 (.bool bg) (.slice ag kg cg) (.bool dg) (.slice eg lg mg); replace hB := below4 hB (w.heap.size + 1 + 1) (by first | omega | (simp; omega) | simp) (.bool bg) (.slice ag kg cg) (.bool dg) (.slice eg lg mg)
 refine wpAnyH_done (by kernel_rfl) ?_ _
 refine NoPanic.normal ?_
 clear hR4 qx qv g1 g2 gxn gxd gvn gvd xx xv
 have pr := xr.all4
 have ltr := xr.lt
 go_wp2
 clear ltr pr
 generalize ((((w3.setCell ⟨w.heap.size + 1 + 1, 0, none⟩ (.bool bg)).setCell ⟨w.heap.size + 1 + 1, 1, none⟩ (.slice ag kg cg)).setCell ⟨w.heap.size + 1 + 1, 2, none⟩ (.bool dg)).setCell ⟨w.heap.size + 1 + 1, 3, none⟩ (.slice eg lg mg)) = WF at *
 have pr := xr.all4
 have ltr := xr.lt
 exact bodyPost_ret (v := .agg #[.bool bg, .slice ag kg cg, .bool dg, .slice eg lg mg]) (by simp [results, Tryz.results120, go_sem, pr]) rfl ⟨⟨_, rfl, gy⟩, hB⟩
theorem ref2Times_num (va vb : Value) (q u : Rat) (sq : Fz 2000 2000 q) (su : Fz 2000 2000 u) (w : World) (h : Fra w va q) (g : Fra w vb u) : Calls Tryz.prog 120 #[va, vb] w fun e w' => (∃ v, e = .returned v ∧ Fra w' v (q * u)) ∧ Below w.heap.size w w' := by
 obtain ⟨b, a, k, c, d, e, l, m, rfl⟩ := h.opened
 obtain ⟨b2, a2, k2, c2, d2, e2, l2, m2, rfl⟩ := g.opened
 exact ref2Times_raw b a k c d e l m b2 a2 k2 c2 d2 e2 l2 m2 q u sq su w h g
theorem ref2Over_raw (bx : Bool) (ax : Option Addr) (kx cx : Nat) (dx : Bool) (ex : Option Addr) (lx mx : Nat) (bv : Bool) (av : Option Addr) (kv cv : Nat) (dv : Bool) (ev : Option Addr) (lv mv : Nat) (q u : Rat) (sq : Fz 2000 2000 q) (su : Fz 2000 2000 u) (hu : u ≠ 0) (w : World) (gx : Fra w (.agg #[.bool bx, .slice ax kx cx, .bool dx, .slice ex lx mx]) q) (gv : Fra w (.agg #[.bool bv, .slice av kv cv, .bool dv, .slice ev lv mv]) u) :
  Calls Tryz.prog 40 #[.agg #[.bool bx, .slice ax kx cx, .bool dx, .slice ex lx mx], .agg #[.bool bv, .slice av kv cv, .bool dv, .slice ev lv mv]] w fun e w' => (∃ v, e = .returned v ∧ Fra w' v (q / u)) ∧ Below w.heap.size w w' := by
 obtain ⟨-, -, gxn, gxd⟩ := fra_nums gx
 obtain ⟨-, -, gvn, gvd⟩ := fra_nums gv
 have HP := Lib.hid (fun va vb W (h : Num W va q.num) (g : Num W vb (u.den : Int)) => refProduct_num va vb q.num (u.den : Int) (Nat.le_trans sq.1 (by decide)) (Nat.le_trans su.2 (by decide)) W h g)
 have HQ := Lib.hid (fun va vb W (h : Num W va (q.den : Int)) (g : Num W vb u.num) => refProduct_num va vb (q.den : Int) u.num (Nat.le_trans sq.2 (by decide)) (Nat.le_trans su.1 (by decide)) W h g)
 have sn : Sz 4000 (q.num * (u.den : Int)) := Sz.mul sq.1 su.2
 have sd : Sz 4000 ((q.den : Int) * u.num) := Sz.mul sq.2 su.1
 have hne : (q.den : Int) * u.num ≠ 0 := dn_ne q hu
 have HL := Lib.hid (fun va vb W (h : Num W va (q.num * (u.den : Int))) (g : Num W vb ((q.den : Int) * u.num)) => Low2_num va vb (q.num * (u.den : Int)) ((q.den : Int) * u.num) (Nat.le_trans sn (by decide)) (Nat.le_trans sd (by decide)) hne W h g)
 rw [← Fq.div_eq q u] at HL
 clear sn sd hne sq su gx gv hu
 have hB := Below.refl w.heap.size w
 obtain ⟨al, xx, hN⟩ := mk hB #[.bool bx, .slice ax kx cx, .bool dx, .slice ex lx mx] 39
 replace gxn := gxn.on al; replace gxd := gxd.on al; replace gvn := gvn.on al; replace gvd := gvd.on al; replace hB := hN; clear al hN
 try simp only [World.size_alloc] at xx
 obtain ⟨al, xv, hN⟩ := mk hB #[.bool bv, .slice av kv cv, .bool dv, .slice ev lv mv] 39
 replace xx := xx.on al; replace gxn := gxn.on al; replace gxd := gxd.on al; replace gvn := gvn.on al; replace gvd := gvd.on al; replace hB := hN; clear al hN
 try simp only [World.size_alloc] at xv
 obtain ⟨al, xr, hN⟩ := mk hB #[.bool false, .slice none 0 0, .bool false, .slice none 0 0] 39
 replace xx := xx.on al; replace xv := xv.on al; replace gxn := gxn.on al; replace gxd := gxd.on al; replace gvn := gvn.on al; replace gvd := gvd.on al; replace hB := hN; clear al hN
 try simp only [World.size_alloc] at xr
 go_enter Tryz.func40, Tryz.ntmps40
 have px := xx.all4
 have pv := xv.all4
 have pr := xr.all4
 have ltx := xx.lt
 have ltv := xv.lt
 have ltr := xr.lt
 go_wp2_with fail
 clear ltx ltv ltr px pv pr
 obtain ⟨wa, hwa⟩ : ∃ W, W = (((w.alloc (.cells #[.bool bx, .slice ax kx cx, .bool dx, .slice ex lx mx] 39)).alloc (.cells #[.bool bv, .slice av kv cv, .bool dv, .slice ev lv mv] 39)).alloc (.cells #[.bool false, .slice none 0 0, .bool false, .slice none 0 0] 39)) := ⟨_, rfl⟩
 rw [← hwa] at hB xx xv xr gxn gxd gvn gvd ⊢
 clear hwa
 have qx := xx.lt
 have qv := xv.lt
 obtain ⟨gx0, gx1, gx2, gx3⟩ := xx.cells4
 obtain ⟨gv0, gv1, gv2, gv3⟩ := xv.cells4
 refine wp_region_noPanic ?_
 refine wp_region_held_drew (S := (fun w' => (w'.cell? ⟨w.heap.size, 0, none⟩ = some (.bool bx) ∧ w'.cell? ⟨w.heap.size, 1, none⟩ = some (.slice ax kx cx) ∧ w'.cell? ⟨w.heap.size, 2, none⟩ = some (.bool dx) ∧ w'.cell? ⟨w.heap.size, 3, none⟩ = some (.slice ex lx mx)) ∧ w'.cell? ⟨w.heap.size + 1, 0, none⟩ = some (.bool bv) ∧ w'.cell? ⟨w.heap.size + 1, 1, none⟩ = some (.slice av kv cv) ∧ w'.cell? ⟨w.heap.size + 1, 2, none⟩ = some (.bool dv) ∧ w'.cell? ⟨w.heap.size + 1, 3, none⟩ = some (.slice ev lv mv))) (by kernel_rfl) ⟨⟨gx0, gx1, gx2, gx3⟩, ⟨gv0, gv1, gv2, gv3⟩⟩ (fun hR0 => ?_)
 change wpAnyH _ _ _ _ _ 12 #[false, false, false, false, false, false, false, false, false, false, false, false] _ _
 clear gx0 gx1 gx2 gx3 gv0 gv1 gv2 gv3
 refine tz 0 ?_
 (try simp only [Act.put, sa, List.set])
 refine tz 1 ?_
 (try simp only [Act.put, sa, List.set])
 refine tz 2 ?_
 (try simp only [Act.put, sa, List.set])
 refine tz 3 ?_
 (try simp only [Act.put, sa, List.set])
 refine tz 5 ?_
 (try simp only [Act.put, sa, List.set])
 refine tz 6 ?_
 (try simp only [Act.put, sa, List.set])
 refine tz 7 ?_
 (try simp only [Act.put, sa, List.set])
 refine tz 8 ?_
 (try simp only [Act.put, sa, List.set])
 refine rz 4 fun K hK => ?_
 go_simp
 go_at_call 118; have hBd := hB.drew; refine (HP.out _ _ _ (by exact gxn) (by exact gvd)).mono ?_; rintro e w1 ⟨⟨v1, rfl, g1⟩, hb⟩; replace hb := (Below.refl wa.heap.size wa).drew.trans hb; replace xx := xx.on hb; replace xv := xv.on hb; replace xr := xr.on hb; replace gxn := gxn.on hb; replace gxd := gxd.on hb; replace gvn := gvn.on hb; replace gvd := gvd.on hb; replace hB := hB.trans (hb.mono hB.size); have hz1 := hb.size
 (try go_wp2_with fail)
 refine hK.out _ _ (⟨keep4 hb qx hR0.1, keep4 hb qv hR0.2⟩) (fun hR1 => ?_)
 clear hK K hR0
 (try simp only [Act.put, sa, List.set])
 replace qx := Nat.lt_of_lt_of_le qx hz1; replace qv := Nat.lt_of_lt_of_le qv hz1; clear hb hBd
 refine rz 9 fun K hK => ?_
 go_simp
 go_at_call 118; have hBd := hB; refine (HQ.out _ _ _ gxd gvn).mono ?_; rintro e w2 ⟨⟨v2, rfl, g2⟩, hb⟩; replace xx := xx.on hb; replace xv := xv.on hb; replace xr := xr.on hb; replace gxn := gxn.on hb; replace gxd := gxd.on hb; replace gvn := gvn.on hb; replace gvd := gvd.on hb; replace g1 := g1.on hb; replace hB := hB.trans (hb.mono hB.size); have hz2 := hb.size
 (try go_wp2_with fail)
 refine hK.out _ _ (⟨keep4 hb qx hR1.1, keep4 hb qv hR1.2⟩) (fun hR2 => ?_)
 clear hK K hR1
 (try simp only [Act.put, sa, List.set])
 replace qx := Nat.lt_of_lt_of_le qx hz2; replace qv := Nat.lt_of_lt_of_le qv hz2; clear hb hBd
 refine rz 10 fun K hK => ?_
 go_simp
 go_at_call 86; have hBd := hB; refine (HL.out _ _ _ g1 g2).mono ?_; rintro e w3 ⟨⟨v3, rfl, gy⟩, hb⟩; obtain ⟨bg, ag, kg, cg, dg, eg, lg, mg, rfl⟩ := gy.opened; replace xx := xx.on hb; replace xv := xv.on hb; replace xr := xr.on hb; replace gxn := gxn.on hb; replace gxd := gxd.on hb; replace gvn := gvn.on hb; replace gvd := gvd.on hb; replace g1 := g1.on hb; replace g2 := g2.on hb; replace hB := hB.trans (hb.mono hB.size); have hz3 := hb.size
 (try go_wp2_with fail)
 refine hK.out _ _ (⟨keep4 hb qx hR2.1, keep4 hb qv hR2.2⟩) (fun hR3 => ?_)
 clear hK K hR2
 (try simp only [Act.put, sa, List.set])
 replace qx := Nat.lt_of_lt_of_le qx hz3; replace qv := Nat.lt_of_lt_of_le qv hz3; clear hb hBd
 have pr := xr.all4
 refine rz 11 fun K hK => ?_
 go_simp
 refine hK.out _ _ (⟨stay4 hR3.1 (by omega), stay4 hR3.2 (by omega)⟩) (fun hR4 => ?_)
 clear hK K hR3
 (try simp only [Act.put, sa, List.set])
 clear pr; replace gxn := gxn.setB4 xr rfl (.bool bg) (.slice ag kg cg) (.bool dg) (.slice eg lg mg) rfl; replace gxd := gxd.setB4 xr rfl (.bool bg) (.slice ag kg cg) (.bool dg) (.slice eg lg mg) rfl; replace gvn := gvn.setB4 xr rfl (.bool bg) (.slice ag kg cg) (.bool dg) (.slice eg lg mg) rfl; replace gvd := gvd.setB4 xr rfl (.bool bg) (.slice ag kg cg) (.bool dg) (.slice eg lg mg) rfl; replace g1 := g1.setB4 xr rfl (.bool bg) (.slice ag kg cg) (.bool dg) (.slice eg lg mg) rfl; replace g2 := g2.setB4 xr rfl (.bool bg) (.slice ag kg cg) (.bool dg) (.slice eg lg mg) rfl; replace gy := gy.setB4 xr rfl (.bool bg) (.slice ag kg cg) (.bool dg) (.slice eg lg mg) rfl; replace xx := xx.put_other4 (w.heap.size + 1 + 1) (.bool bg) (.slice ag kg cg) (.bool dg) (.slice eg lg mg) (by omega); replace xv := xv.put_other4 (w.heap.size + 1 + 1) (.bool bg) (.slice ag kg cg) (.bool dg) (.slice eg lg mg) (by omega); replace xr := xr.put4 (.bool bg) (.slice ag kg cg) (.bool dg) (.slice eg lg mg); replace hB := below4 hB (w.heap.size + 1 + 1) (by first | omega | (simp; omega) | simp) (.bool bg) (.slice ag kg cg) (.bool dg) (.slice eg lg mg)
 refine wpAnyH_done (by kernel_rfl) ?_ _
 refine NoPanic.normal ?_
 clear hR4 qx qv g1 g2 gxn gxd gvn gvd xx xv
 have pr := xr.all4
 have ltr := xr.lt
 go_wp2
 clear ltr pr
 generalize ((((w3.setCell ⟨w.heap.size + 1 + 1, 0, none⟩ (.bool bg)).setCell ⟨w.heap.size + 1 + 1, 1, none⟩ (.slice ag kg cg)).setCell ⟨w.heap.size + 1 + 1, 2, none⟩ (.bool dg)).setCell ⟨w.heap.size + 1 + 1, 3, none⟩ (.slice eg lg mg)) = WF at *
 have pr := xr.all4
 have ltr := xr.lt
 exact bodyPost_ret (v := .agg #[.bool bg, .slice ag kg cg, .bool dg, .slice eg lg mg]) (by simp [results, Tryz.results40, go_sem, pr]) rfl ⟨⟨_, rfl, gy⟩, hB⟩
theorem ref2Over_num (va vb : Value) (q u : Rat) (sq : Fz 2000 2000 q) (su : Fz 2000 2000 u) (hu : u ≠ 0) (w : World) (h : Fra w va q) (g : Fra w vb u) : Calls Tryz.prog 40 #[va, vb] w fun e w' => (∃ v, e = .returned v ∧ Fra w' v (q / u)) ∧ Below w.heap.size w w' := by
 obtain ⟨b, a, k, c, d, e, l, m, rfl⟩ := h.opened
 obtain ⟨b2, a2, k2, c2, d2, e2, l2, m2, rfl⟩ := g.opened
 exact ref2Over_raw b a k c d e l m b2 a2 k2 c2 d2 e2 l2 m2 q u sq su hu w h g
theorem ref2Plus_raw (bx : Bool) (ax : Option Addr) (kx cx : Nat) (dx : Bool) (ex : Option Addr) (lx mx : Nat) (bv : Bool) (av : Option Addr) (kv cv : Nat) (dv : Bool) (ev : Option Addr) (lv mv : Nat) (q u : Rat) (sq : Fz 2000 2000 q) (su : Fz 2000 2000 u) (w : World) (gx : Fra w (.agg #[.bool bx, .slice ax kx cx, .bool dx, .slice ex lx mx]) q) (gv : Fra w (.agg #[.bool bv, .slice av kv cv, .bool dv, .slice ev lv mv]) u) :
  Calls Tryz.prog 41 #[.agg #[.bool bx, .slice ax kx cx, .bool dx, .slice ex lx mx], .agg #[.bool bv, .slice av kv cv, .bool dv, .slice ev lv mv]] w fun e w' => (∃ v, e = .returned v ∧ Fra w' v (q + u)) ∧ Below w.heap.size w w' := by
 obtain ⟨-, -, gxn, gxd⟩ := fra_nums gx
 obtain ⟨-, -, gvn, gvd⟩ := fra_nums gv
 have HP := Lib.hid (fun va vb W (h : Num W va q.num) (g : Num W vb (u.den : Int)) => refProduct_num va vb q.num (u.den : Int) (Nat.le_trans sq.1 (by decide)) (Nat.le_trans su.2 (by decide)) W h g)
 have HQ := Lib.hid (fun va vb W (h : Num W va u.num) (g : Num W vb (q.den : Int)) => refProduct_num va vb u.num (q.den : Int) (Nat.le_trans su.1 (by decide)) (Nat.le_trans sq.2 (by decide)) W h g)
 have HD := Lib.hid (fun va vb W (h : Num W va (q.den : Int)) (g : Num W vb (u.den : Int)) => refProduct_num va vb (q.den : Int) (u.den : Int) (Nat.le_trans sq.2 (by decide)) (Nat.le_trans su.2 (by decide)) W h g)
 have s1 : Sz 4000 (q.num * (u.den : Int)) := Sz.mul sq.1 su.2
 have s2 : Sz 4000 (u.num * (q.den : Int)) := Sz.mul su.1 sq.2
 have sd : Sz 4000 ((q.den : Int) * (u.den : Int)) := Sz.mul sq.2 su.2
 have sn : Sz 4001 (q.num * (u.den : Int) + u.num * (q.den : Int)) := Sz.add s1 s2
 have HS := Lib.hid (fun va vb W (h : Num W va (q.num * (u.den : Int))) (g : Num W vb (u.num * (q.den : Int))) => refSum_num va vb _ _ (Nat.le_trans s1 (by decide)) (Nat.le_trans s2 (by decide)) W h g)
 have HL := Lib.hid (fun va vb W (h : Num W va (q.num * (u.den : Int) + u.num * (q.den : Int))) (g : Num W vb ((q.den : Int) * (u.den : Int))) => Low2_num va vb _ _ (Nat.le_trans sn (by decide)) (Nat.le_trans sd (by decide)) (dd_ne q u) W h g)
 rw [← Fq.add_eq q u] at HL
 clear s1 s2 sn sd sq su gx gv
 have hB := Below.refl w.heap.size w
 obtain ⟨al, xx, hN⟩ := mk hB #[.bool bx, .slice ax kx cx, .bool dx, .slice ex lx mx] 39
 replace gxn := gxn.on al; replace gxd := gxd.on al; replace gvn := gvn.on al; replace gvd := gvd.on al; replace hB := hN; clear al hN
 try simp only [World.size_alloc] at xx
 obtain ⟨al, xv, hN⟩ := mk hB #[.bool bv, .slice av kv cv, .bool dv, .slice ev lv mv] 39
 replace xx := xx.on al; replace gxn := gxn.on al; replace gxd := gxd.on al; replace gvn := gvn.on al; replace gvd := gvd.on al; replace hB := hN; clear al hN
 try simp only [World.size_alloc] at xv
 obtain ⟨al, xr, hN⟩ := mk hB #[.bool false, .slice none 0 0, .bool false, .slice none 0 0] 39
 replace xx := xx.on al; replace xv := xv.on al; replace gxn := gxn.on al; replace gxd := gxd.on al; replace gvn := gvn.on al; replace gvd := gvd.on al; replace hB := hN; clear al hN
 try simp only [World.size_alloc] at xr
 go_enter Tryz.func41, Tryz.ntmps41
 have px := xx.all4
 have pv := xv.all4
 have pr := xr.all4
 have ltx := xx.lt
 have ltv := xv.lt
 have ltr := xr.lt
 go_wp2_with fail
 clear ltx ltv ltr px pv pr
 obtain ⟨wa, hwa⟩ : ∃ W, W = (((w.alloc (.cells #[.bool bx, .slice ax kx cx, .bool dx, .slice ex lx mx] 39)).alloc (.cells #[.bool bv, .slice av kv cv, .bool dv, .slice ev lv mv] 39)).alloc (.cells #[.bool false, .slice none 0 0, .bool false, .slice none 0 0] 39)) := ⟨_, rfl⟩
 rw [← hwa] at hB xx xv xr gxn gxd gvn gvd ⊢
 clear hwa
 go_cut [5] (fun s5 wx => AtN wa wx s5 (q.num * (u.den : Int) + u.num * (q.den : Int)))
 case first =>
  have hM : Below wa.heap.size wa wa.drew := (Below.refl wa.heap.size wa).drew
  obtain ⟨gx0, gx1, gx2, gx3⟩ := xx.cells4
  obtain ⟨gv0, gv1, gv2, gv3⟩ := xv.cells4
  replace gxn := gxn.below hM (Nat.le_refl _); replace gxd := gxd.below hM (Nat.le_refl _); replace gvn := gvn.below hM (Nat.le_refl _); replace gvd := gvd.below hM (Nat.le_refl _); replace xx := xx.on hM; replace xv := xv.on hM; replace xr := xr.on hM
  refine wp_region_noPanic ?_
  refine wp_region_held_drew (S := (fun w' => (w'.cell? ⟨w.heap.size, 0, none⟩ = some (.bool bx) ∧ w'.cell? ⟨w.heap.size, 1, none⟩ = some (.slice ax kx cx) ∧ w'.cell? ⟨w.heap.size, 2, none⟩ = some (.bool dx) ∧ w'.cell? ⟨w.heap.size, 3, none⟩ = some (.slice ex lx mx)) ∧ w'.cell? ⟨w.heap.size + 1, 0, none⟩ = some (.bool bv) ∧ w'.cell? ⟨w.heap.size + 1, 1, none⟩ = some (.slice av kv cv) ∧ w'.cell? ⟨w.heap.size + 1, 2, none⟩ = some (.bool dv) ∧ w'.cell? ⟨w.heap.size + 1, 3, none⟩ = some (.slice ev lv mv))) (by kernel_rfl) ⟨⟨gx0, gx1, gx2, gx3⟩, ⟨gv0, gv1, gv2, gv3⟩⟩ (fun hR0 => ?_)
  change wpAnyH _ _ _ _ _ 13 #[false, false, false, false, false, false, false, false, false, false, false, false, false] _ _
  clear gx0 gx1 gx2 gx3 gv0 gv1 gv2 gv3
  generalize wa.drew = wd at *
  have qx := xx.lt
  have qv := xv.lt
  refine tz 0 ?_
  (try simp only [Act.put, sa, List.set])
  refine tz 2 ?_
  (try simp only [Act.put, sa, List.set])
  refine tz 5 ?_
  (try simp only [Act.put, sa, List.set])
  refine tz 7 ?_
  (try simp only [Act.put, sa, List.set])
  refine tz 1 ?_
  (try simp only [Act.put, sa, List.set])
  refine tz 3 ?_
  (try simp only [Act.put, sa, List.set])
  refine tz 6 ?_
  (try simp only [Act.put, sa, List.set])
  refine tz 8 ?_
  (try simp only [Act.put, sa, List.set])
  refine rd2 (i := 4) (j := 11) (by kernel_rfl) rfl rfl (fun K hK => ?_) (fun K hK => ?_)
  ·
   go_simp
   go_at_call 118; refine (HP.out _ _ _ gxn gvd).mono ?_; rintro e wc1 ⟨⟨v1, rfl, g1⟩, hb⟩; replace xx := xx.on hb; replace xv := xv.on hb; replace xr := xr.on hb; replace gxn := gxn.on hb; replace gxd := gxd.on hb; replace gvn := gvn.on hb; replace gvd := gvd.on hb; replace hM := hM.trans (hb.mono hM.size)
   (try go_wp2_with fail)
   refine hK.out _ _ (⟨keep4 hb qx hR0.1, keep4 hb qv hR0.2⟩) (fun hR1 => ?_)
   clear hK K hR0
   (try simp only [Act.put, sa, List.set])
   clear hb qx qv
   have qx := xx.lt
   have qv := xv.lt
   refine rd2 (i := 9) (j := 11) (by kernel_rfl) rfl rfl (fun K hK => ?_) (fun K hK => ?_)
   ·
    go_simp
    go_at_call 118; refine (HQ.out _ _ _ gvn gxd).mono ?_; rintro e wc2 ⟨⟨v2, rfl, g2⟩, hb⟩; replace xx := xx.on hb; replace xv := xv.on hb; replace xr := xr.on hb; replace gxn := gxn.on hb; replace gxd := gxd.on hb; replace gvn := gvn.on hb; replace gvd := gvd.on hb; replace g1 := g1.on hb; replace hM := hM.trans (hb.mono hM.size)
    (try go_wp2_with fail)
    refine hK.out _ _ (⟨keep4 hb qx hR1.1, keep4 hb qv hR1.2⟩) (fun hR2 => ?_)
    clear hK K hR1
    (try simp only [Act.put, sa, List.set])
    clear hb qx qv
    have qx := xx.lt
    have qv := xv.lt
    refine rd2 (i := 10) (j := 11) (by kernel_rfl) rfl rfl (fun K hK => ?_) (fun K hK => ?_)
    ·
     go_simp
     go_at_call 124; refine (HS.out _ _ _ g1 g2).mono ?_; rintro e wc3 ⟨⟨v3, rfl, gs⟩, hb⟩; obtain ⟨bk, ak, kk, ck, rfl⟩ := gs.opened; replace xx := xx.on hb; replace xv := xv.on hb; replace xr := xr.on hb; replace gxn := gxn.on hb; replace gxd := gxd.on hb; replace gvn := gvn.on hb; replace gvd := gvd.on hb; replace g1 := g1.on hb; replace g2 := g2.on hb; replace hM := hM.trans (hb.mono hM.size)
     (try go_wp2_with fail)
     refine hK.out _ _ (⟨keep4 hb qx hR2.1, keep4 hb qv hR2.2⟩) (fun hR3 => ?_)
     clear hK K hR2
     (try simp only [Act.put, sa, List.set])
     clear hb qx qv
     have qx := xx.lt
     have qv := xv.lt
     have nxy : wc3.heap.size ≠ w.heap.size := (by have := xx.lt; omega)
     have nvy : wc3.heap.size ≠ w.heap.size + 1 := (by have := xv.lt; omega)
     have hb := (Below.refl wc3.heap.size wc3).alloc (Nat.le_refl _) (.cells #[.bool false, .slice none 0 0] 24)
     refine rz 11 fun K hK => ?_
     go_simp
     refine hK.out _ _ (⟨keep4 hb qx hR3.1, keep4 hb qv hR3.2⟩) (fun hR4 => ?_)
     clear hK K hR3
     (try simp only [Act.put, sa, List.set])
     have xy := Bk.new wc3 #[.bool false, .slice none 0 0] 24
     have ly := hM.size
     replace xx := xx.on hb; replace xv := xv.on hb; replace xr := xr.on hb; replace gxn := gxn.on hb; replace gxd := gxd.on hb; replace gvn := gvn.on hb; replace gvd := gvd.on hb; replace g1 := g1.on hb; replace g2 := g2.on hb; replace gs := gs.on hb; replace hM := hM.trans (hb.mono hM.size); clear hb qx qv
     generalize hA : wc3.heap.size = Ay at *
     generalize wc3.alloc (.cells #[.bool false, .slice none 0 0] 24) = wc4 at *
     clear hA
     have qx := xx.lt
     have qv := xv.lt
     have uc0 := xy.cell 0
     have uf0 := xy.free 0
     have uc1 := xy.cell 1
     have uf1 := xy.free 1
     simp only [List.getElem?_toArray, List.getElem?_cons_zero, List.getElem?_cons_succ] at uc0 uc1
     refine rz 12 fun K hK => ?_
     go_simp
     refine hK.out _ _ (⟨⟨cell_store hR4.1.1 nxy, cell_store hR4.1.2.1 nxy, cell_store hR4.1.2.2.1 nxy, cell_store hR4.1.2.2.2 nxy⟩, ⟨cell_store hR4.2.1 nvy, cell_store hR4.2.2.1 nvy, cell_store hR4.2.2.2.1 nvy, cell_store hR4.2.2.2.2 nvy⟩⟩) (fun hR5 => ?_)
     clear hK K hR4
     (try simp only [Act.put, sa, List.set])
     clear uc0 uf0 uc1 uf1; replace gxn := (gxn.setB xy rfl 0 (.bool bk)).setB (xy.put 0 (.bool bk)) rfl 1 (.slice ak kk ck); replace gxd := (gxd.setB xy rfl 0 (.bool bk)).setB (xy.put 0 (.bool bk)) rfl 1 (.slice ak kk ck); replace gvn := (gvn.setB xy rfl 0 (.bool bk)).setB (xy.put 0 (.bool bk)) rfl 1 (.slice ak kk ck); replace gvd := (gvd.setB xy rfl 0 (.bool bk)).setB (xy.put 0 (.bool bk)) rfl 1 (.slice ak kk ck); replace g1 := (g1.setB xy rfl 0 (.bool bk)).setB (xy.put 0 (.bool bk)) rfl 1 (.slice ak kk ck); replace g2 := (g2.setB xy rfl 0 (.bool bk)).setB (xy.put 0 (.bool bk)) rfl 1 (.slice ak kk ck); replace gs := (gs.setB xy rfl 0 (.bool bk)).setB (xy.put 0 (.bool bk)) rfl 1 (.slice ak kk ck); replace hM := (hM.setCell (p := ⟨Ay, 0, none⟩) ly (.bool bk)).setCell (p := ⟨Ay, 1, none⟩) ly (.slice ak kk ck)
     replace xy : Bk _ Ay #[.bool bk, .slice ak kk ck] 24 := (xy.put 0 (.bool bk)).put 1 (.slice ak kk ck)
     clear qx qv; replace xx := (xx.put_other Ay 0 (.bool bk) (by omega)).put_other Ay 1 (.slice ak kk ck) (by omega); replace xv := (xv.put_other Ay 0 (.bool bk) (by omega)).put_other Ay 1 (.slice ak kk ck) (by omega)
     have qx := xx.lt
     have qv := xv.lt
     refine wpAnyH_done (by kernel_rfl) ?_ _
     refine NoPanic.normal ?_
     clear hR5
     go_wp2_with fail
     go_meet
     exact ⟨_, _, _, _, _, rfl, xy, gs, ly, hM⟩
    ·
     have nxy : wc2.heap.size ≠ w.heap.size := (by have := xx.lt; omega)
     have nvy : wc2.heap.size ≠ w.heap.size + 1 := (by have := xv.lt; omega)
     have hb := (Below.refl wc2.heap.size wc2).alloc (Nat.le_refl _) (.cells #[.bool false, .slice none 0 0] 24)
     go_simp
     refine hK.out _ _ (⟨keep4 hb qx hR2.1, keep4 hb qv hR2.2⟩) (fun hR3 => ?_)
     clear hK K hR2
     (try simp only [Act.put, sa, List.set])
     have xy := Bk.new wc2 #[.bool false, .slice none 0 0] 24
     have ly := hM.size
     replace xx := xx.on hb; replace xv := xv.on hb; replace xr := xr.on hb; replace gxn := gxn.on hb; replace gxd := gxd.on hb; replace gvn := gvn.on hb; replace gvd := gvd.on hb; replace g1 := g1.on hb; replace g2 := g2.on hb; replace hM := hM.trans (hb.mono hM.size); clear hb qx qv
     generalize hA : wc2.heap.size = Ay at *
     generalize wc2.alloc (.cells #[.bool false, .slice none 0 0] 24) = wc5 at *
     clear hA
     have qx := xx.lt
     have qv := xv.lt
     refine rz 10 fun K hK => ?_
     go_simp
     go_at_call 124; refine (HS.out _ _ _ g1 g2).mono ?_; rintro e wc6 ⟨⟨v3, rfl, gs⟩, hb⟩; obtain ⟨bk, ak, kk, ck, rfl⟩ := gs.opened; replace xx := xx.on hb; replace xv := xv.on hb; replace xr := xr.on hb; replace xy := xy.on hb; replace gxn := gxn.on hb; replace gxd := gxd.on hb; replace gvn := gvn.on hb; replace gvd := gvd.on hb; replace g1 := g1.on hb; replace g2 := g2.on hb; replace hM := hM.trans (hb.mono hM.size)
     (try go_wp2_with fail)
     refine hK.out _ _ (⟨keep4 hb qx hR3.1, keep4 hb qv hR3.2⟩) (fun hR4 => ?_)
     clear hK K hR3
     (try simp only [Act.put, sa, List.set])
     clear hb qx qv
     have qx := xx.lt
     have qv := xv.lt
     have uc0 := xy.cell 0
     have uf0 := xy.free 0
     have uc1 := xy.cell 1
     have uf1 := xy.free 1
     simp only [List.getElem?_toArray, List.getElem?_cons_zero, List.getElem?_cons_succ] at uc0 uc1
     refine rz 12 fun K hK => ?_
     go_simp
     refine hK.out _ _ (⟨⟨cell_store hR4.1.1 nxy, cell_store hR4.1.2.1 nxy, cell_store hR4.1.2.2.1 nxy, cell_store hR4.1.2.2.2 nxy⟩, ⟨cell_store hR4.2.1 nvy, cell_store hR4.2.2.1 nvy, cell_store hR4.2.2.2.1 nvy, cell_store hR4.2.2.2.2 nvy⟩⟩) (fun hR5 => ?_)
     clear hK K hR4
     (try simp only [Act.put, sa, List.set])
     clear uc0 uf0 uc1 uf1; replace gxn := (gxn.setB xy rfl 0 (.bool bk)).setB (xy.put 0 (.bool bk)) rfl 1 (.slice ak kk ck); replace gxd := (gxd.setB xy rfl 0 (.bool bk)).setB (xy.put 0 (.bool bk)) rfl 1 (.slice ak kk ck); replace gvn := (gvn.setB xy rfl 0 (.bool bk)).setB (xy.put 0 (.bool bk)) rfl 1 (.slice ak kk ck); replace gvd := (gvd.setB xy rfl 0 (.bool bk)).setB (xy.put 0 (.bool bk)) rfl 1 (.slice ak kk ck); replace g1 := (g1.setB xy rfl 0 (.bool bk)).setB (xy.put 0 (.bool bk)) rfl 1 (.slice ak kk ck); replace g2 := (g2.setB xy rfl 0 (.bool bk)).setB (xy.put 0 (.bool bk)) rfl 1 (.slice ak kk ck); replace gs := (gs.setB xy rfl 0 (.bool bk)).setB (xy.put 0 (.bool bk)) rfl 1 (.slice ak kk ck); replace hM := (hM.setCell (p := ⟨Ay, 0, none⟩) ly (.bool bk)).setCell (p := ⟨Ay, 1, none⟩) ly (.slice ak kk ck)
     replace xy : Bk _ Ay #[.bool bk, .slice ak kk ck] 24 := (xy.put 0 (.bool bk)).put 1 (.slice ak kk ck)
     clear qx qv; replace xx := (xx.put_other Ay 0 (.bool bk) (by omega)).put_other Ay 1 (.slice ak kk ck) (by omega); replace xv := (xv.put_other Ay 0 (.bool bk) (by omega)).put_other Ay 1 (.slice ak kk ck) (by omega)
     have qx := xx.lt
     have qv := xv.lt
     refine wpAnyH_done (by kernel_rfl) ?_ _
     refine NoPanic.normal ?_
     clear hR5
     go_wp2_with fail
     go_meet
     exact ⟨_, _, _, _, _, rfl, xy, gs, ly, hM⟩
   ·
    have nxy : wc1.heap.size ≠ w.heap.size := (by have := xx.lt; omega)
    have nvy : wc1.heap.size ≠ w.heap.size + 1 := (by have := xv.lt; omega)
    have hb := (Below.refl wc1.heap.size wc1).alloc (Nat.le_refl _) (.cells #[.bool false, .slice none 0 0] 24)
    go_simp
    refine hK.out _ _ (⟨keep4 hb qx hR1.1, keep4 hb qv hR1.2⟩) (fun hR2 => ?_)
    clear hK K hR1
    (try simp only [Act.put, sa, List.set])
    have xy := Bk.new wc1 #[.bool false, .slice none 0 0] 24
    have ly := hM.size
    replace xx := xx.on hb; replace xv := xv.on hb; replace xr := xr.on hb; replace gxn := gxn.on hb; replace gxd := gxd.on hb; replace gvn := gvn.on hb; replace gvd := gvd.on hb; replace g1 := g1.on hb; replace hM := hM.trans (hb.mono hM.size); clear hb qx qv
    generalize hA : wc1.heap.size = Ay at *
    generalize wc1.alloc (.cells #[.bool false, .slice none 0 0] 24) = wc7 at *
    clear hA
    have qx := xx.lt
    have qv := xv.lt
    refine rz 9 fun K hK => ?_
    go_simp
    go_at_call 118; refine (HQ.out _ _ _ gvn gxd).mono ?_; rintro e wc8 ⟨⟨v2, rfl, g2⟩, hb⟩; replace xx := xx.on hb; replace xv := xv.on hb; replace xr := xr.on hb; replace xy := xy.on hb; replace gxn := gxn.on hb; replace gxd := gxd.on hb; replace gvn := gvn.on hb; replace gvd := gvd.on hb; replace g1 := g1.on hb; replace hM := hM.trans (hb.mono hM.size)
    (try go_wp2_with fail)
    refine hK.out _ _ (⟨keep4 hb qx hR2.1, keep4 hb qv hR2.2⟩) (fun hR3 => ?_)
    clear hK K hR2
    (try simp only [Act.put, sa, List.set])
    clear hb qx qv
    have qx := xx.lt
    have qv := xv.lt
    refine rz 10 fun K hK => ?_
    go_simp
    go_at_call 124; refine (HS.out _ _ _ g1 g2).mono ?_; rintro e wc9 ⟨⟨v3, rfl, gs⟩, hb⟩; obtain ⟨bk, ak, kk, ck, rfl⟩ := gs.opened; replace xx := xx.on hb; replace xv := xv.on hb; replace xr := xr.on hb; replace xy := xy.on hb; replace gxn := gxn.on hb; replace gxd := gxd.on hb; replace gvn := gvn.on hb; replace gvd := gvd.on hb; replace g1 := g1.on hb; replace g2 := g2.on hb; replace hM := hM.trans (hb.mono hM.size)
    (try go_wp2_with fail)
    refine hK.out _ _ (⟨keep4 hb qx hR3.1, keep4 hb qv hR3.2⟩) (fun hR4 => ?_)
    clear hK K hR3
    (try simp only [Act.put, sa, List.set])
    clear hb qx qv
    have qx := xx.lt
    have qv := xv.lt
    have uc0 := xy.cell 0
    have uf0 := xy.free 0
    have uc1 := xy.cell 1
    have uf1 := xy.free 1
    simp only [List.getElem?_toArray, List.getElem?_cons_zero, List.getElem?_cons_succ] at uc0 uc1
    refine rz 12 fun K hK => ?_
    go_simp
    refine hK.out _ _ (⟨⟨cell_store hR4.1.1 nxy, cell_store hR4.1.2.1 nxy, cell_store hR4.1.2.2.1 nxy, cell_store hR4.1.2.2.2 nxy⟩, ⟨cell_store hR4.2.1 nvy, cell_store hR4.2.2.1 nvy, cell_store hR4.2.2.2.1 nvy, cell_store hR4.2.2.2.2 nvy⟩⟩) (fun hR5 => ?_)
    clear hK K hR4
    (try simp only [Act.put, sa, List.set])
    clear uc0 uf0 uc1 uf1; replace gxn := (gxn.setB xy rfl 0 (.bool bk)).setB (xy.put 0 (.bool bk)) rfl 1 (.slice ak kk ck); replace gxd := (gxd.setB xy rfl 0 (.bool bk)).setB (xy.put 0 (.bool bk)) rfl 1 (.slice ak kk ck); replace gvn := (gvn.setB xy rfl 0 (.bool bk)).setB (xy.put 0 (.bool bk)) rfl 1 (.slice ak kk ck); replace gvd := (gvd.setB xy rfl 0 (.bool bk)).setB (xy.put 0 (.bool bk)) rfl 1 (.slice ak kk ck); replace g1 := (g1.setB xy rfl 0 (.bool bk)).setB (xy.put 0 (.bool bk)) rfl 1 (.slice ak kk ck); replace g2 := (g2.setB xy rfl 0 (.bool bk)).setB (xy.put 0 (.bool bk)) rfl 1 (.slice ak kk ck); replace gs := (gs.setB xy rfl 0 (.bool bk)).setB (xy.put 0 (.bool bk)) rfl 1 (.slice ak kk ck); replace hM := (hM.setCell (p := ⟨Ay, 0, none⟩) ly (.bool bk)).setCell (p := ⟨Ay, 1, none⟩) ly (.slice ak kk ck)
    replace xy : Bk _ Ay #[.bool bk, .slice ak kk ck] 24 := (xy.put 0 (.bool bk)).put 1 (.slice ak kk ck)
    clear qx qv; replace xx := (xx.put_other Ay 0 (.bool bk) (by omega)).put_other Ay 1 (.slice ak kk ck) (by omega); replace xv := (xv.put_other Ay 0 (.bool bk) (by omega)).put_other Ay 1 (.slice ak kk ck) (by omega)
    have qx := xx.lt
    have qv := xv.lt
    refine wpAnyH_done (by kernel_rfl) ?_ _
    refine NoPanic.normal ?_
    clear hR5
    go_wp2_with fail
    go_meet
    exact ⟨_, _, _, _, _, rfl, xy, gs, ly, hM⟩
  ·
   have nxy : wd.heap.size ≠ w.heap.size := (by have := xx.lt; omega)
   have nvy : wd.heap.size ≠ w.heap.size + 1 := (by have := xv.lt; omega)
   have hb := (Below.refl wd.heap.size wd).alloc (Nat.le_refl _) (.cells #[.bool false, .slice none 0 0] 24)
   go_simp
   refine hK.out _ _ (⟨keep4 hb qx hR0.1, keep4 hb qv hR0.2⟩) (fun hR1 => ?_)
   clear hK K hR0
   (try simp only [Act.put, sa, List.set])
   have xy := Bk.new wd #[.bool false, .slice none 0 0] 24
   have ly := hM.size
   replace xx := xx.on hb; replace xv := xv.on hb; replace xr := xr.on hb; replace gxn := gxn.on hb; replace gxd := gxd.on hb; replace gvn := gvn.on hb; replace gvd := gvd.on hb; replace hM := hM.trans (hb.mono hM.size); clear hb qx qv
   generalize hA : wd.heap.size = Ay at *
   generalize wd.alloc (.cells #[.bool false, .slice none 0 0] 24) = wc10 at *
   clear hA
   have qx := xx.lt
   have qv := xv.lt
   refine rz 4 fun K hK => ?_
   go_simp
   go_at_call 118; refine (HP.out _ _ _ gxn gvd).mono ?_; rintro e wc11 ⟨⟨v1, rfl, g1⟩, hb⟩; replace xx := xx.on hb; replace xv := xv.on hb; replace xr := xr.on hb; replace xy := xy.on hb; replace gxn := gxn.on hb; replace gxd := gxd.on hb; replace gvn := gvn.on hb; replace gvd := gvd.on hb; replace hM := hM.trans (hb.mono hM.size)
   (try go_wp2_with fail)
   refine hK.out _ _ (⟨keep4 hb qx hR1.1, keep4 hb qv hR1.2⟩) (fun hR2 => ?_)
   clear hK K hR1
   (try simp only [Act.put, sa, List.set])
   clear hb qx qv
   have qx := xx.lt
   have qv := xv.lt
   refine rz 9 fun K hK => ?_
   go_simp
   go_at_call 118; refine (HQ.out _ _ _ gvn gxd).mono ?_; rintro e wc12 ⟨⟨v2, rfl, g2⟩, hb⟩; replace xx := xx.on hb; replace xv := xv.on hb; replace xr := xr.on hb; replace xy := xy.on hb; replace gxn := gxn.on hb; replace gxd := gxd.on hb; replace gvn := gvn.on hb; replace gvd := gvd.on hb; replace g1 := g1.on hb; replace hM := hM.trans (hb.mono hM.size)
   (try go_wp2_with fail)
   refine hK.out _ _ (⟨keep4 hb qx hR2.1, keep4 hb qv hR2.2⟩) (fun hR3 => ?_)
   clear hK K hR2
   (try simp only [Act.put, sa, List.set])
   clear hb qx qv
   have qx := xx.lt
   have qv := xv.lt
   refine rz 10 fun K hK => ?_
   go_simp
   go_at_call 124; refine (HS.out _ _ _ g1 g2).mono ?_; rintro e wc13 ⟨⟨v3, rfl, gs⟩, hb⟩; obtain ⟨bk, ak, kk, ck, rfl⟩ := gs.opened; replace xx := xx.on hb; replace xv := xv.on hb; replace xr := xr.on hb; replace xy := xy.on hb; replace gxn := gxn.on hb; replace gxd := gxd.on hb; replace gvn := gvn.on hb; replace gvd := gvd.on hb; replace g1 := g1.on hb; replace g2 := g2.on hb; replace hM := hM.trans (hb.mono hM.size)
   (try go_wp2_with fail)
   refine hK.out _ _ (⟨keep4 hb qx hR3.1, keep4 hb qv hR3.2⟩) (fun hR4 => ?_)
   clear hK K hR3
   (try simp only [Act.put, sa, List.set])
   clear hb qx qv
   have qx := xx.lt
   have qv := xv.lt
   have uc0 := xy.cell 0
   have uf0 := xy.free 0
   have uc1 := xy.cell 1
   have uf1 := xy.free 1
   simp only [List.getElem?_toArray, List.getElem?_cons_zero, List.getElem?_cons_succ] at uc0 uc1
   refine rz 12 fun K hK => ?_
   go_simp
   refine hK.out _ _ (⟨⟨cell_store hR4.1.1 nxy, cell_store hR4.1.2.1 nxy, cell_store hR4.1.2.2.1 nxy, cell_store hR4.1.2.2.2 nxy⟩, ⟨cell_store hR4.2.1 nvy, cell_store hR4.2.2.1 nvy, cell_store hR4.2.2.2.1 nvy, cell_store hR4.2.2.2.2 nvy⟩⟩) (fun hR5 => ?_)
   clear hK K hR4
   (try simp only [Act.put, sa, List.set])
   clear uc0 uf0 uc1 uf1; replace gxn := (gxn.setB xy rfl 0 (.bool bk)).setB (xy.put 0 (.bool bk)) rfl 1 (.slice ak kk ck); replace gxd := (gxd.setB xy rfl 0 (.bool bk)).setB (xy.put 0 (.bool bk)) rfl 1 (.slice ak kk ck); replace gvn := (gvn.setB xy rfl 0 (.bool bk)).setB (xy.put 0 (.bool bk)) rfl 1 (.slice ak kk ck); replace gvd := (gvd.setB xy rfl 0 (.bool bk)).setB (xy.put 0 (.bool bk)) rfl 1 (.slice ak kk ck); replace g1 := (g1.setB xy rfl 0 (.bool bk)).setB (xy.put 0 (.bool bk)) rfl 1 (.slice ak kk ck); replace g2 := (g2.setB xy rfl 0 (.bool bk)).setB (xy.put 0 (.bool bk)) rfl 1 (.slice ak kk ck); replace gs := (gs.setB xy rfl 0 (.bool bk)).setB (xy.put 0 (.bool bk)) rfl 1 (.slice ak kk ck); replace hM := (hM.setCell (p := ⟨Ay, 0, none⟩) ly (.bool bk)).setCell (p := ⟨Ay, 1, none⟩) ly (.slice ak kk ck)
   replace xy : Bk _ Ay #[.bool bk, .slice ak kk ck] 24 := (xy.put 0 (.bool bk)).put 1 (.slice ak kk ck)
   clear qx qv; replace xx := (xx.put_other Ay 0 (.bool bk) (by omega)).put_other Ay 1 (.slice ak kk ck) (by omega); replace xv := (xv.put_other Ay 0 (.bool bk) (by omega)).put_other Ay 1 (.slice ak kk ck) (by omega)
   have qx := xx.lt
   have qv := xv.lt
   refine wpAnyH_done (by kernel_rfl) ?_ _
   refine NoPanic.normal ?_
   clear hR5
   go_wp2_with fail
   go_meet
   exact ⟨_, _, _, _, _, rfl, xy, gs, ly, hM⟩
 case rest =>
  obtain ⟨Ay, bk, ak, kk, ck, rfl, xy, gs, ly, hb⟩ := hcut
  obtain ⟨w1, hwc⟩ : ∃ W : World, W = wc := ⟨_, rfl⟩
  subst hwc
  replace ly := Nat.le_trans hB.size ly; replace xx := xx.on hb; replace xv := xv.on hb; replace xr := xr.on hb; replace gxn := gxn.on hb; replace gxd := gxd.on hb; replace gvn := gvn.on hb; replace gvd := gvd.on hb; replace hB := hB.trans (hb.mono hB.size); clear hb
  have hyx := xy.ne xx (by decide)
  have hyv := xy.ne xv (by decide)
  have hyr := xy.ne xr (by decide)
  clear gxn gvn
  have px := xx.all4
  have pv := xv.all4
  have pr := xr.all4
  have py := xy.all2
  have ltx := xx.lt
  have ltv := xv.lt
  have ltr := xr.lt
  have lty := xy.lt
  go_wp2_with fail
  clear ltx ltv ltr lty px pv pr py
  have qy := xy.lt
  have qx := xx.lt
  have qv := xv.lt
  obtain ⟨gy0, gy1⟩ := xy.cells2
  obtain ⟨gx0, gx1, gx2, gx3⟩ := xx.cells4
  obtain ⟨gv0, gv1, gv2, gv3⟩ := xv.cells4
  refine wp_region_noPanic ?_
  refine wp_region_held_drew (S := (fun w' => w'.cell? ⟨Ay, 0, none⟩ = some (.bool bk) ∧ w'.cell? ⟨Ay, 1, none⟩ = some (.slice ak kk ck) ∧ (w'.cell? ⟨w.heap.size, 0, none⟩ = some (.bool bx) ∧ w'.cell? ⟨w.heap.size, 1, none⟩ = some (.slice ax kx cx) ∧ w'.cell? ⟨w.heap.size, 2, none⟩ = some (.bool dx) ∧ w'.cell? ⟨w.heap.size, 3, none⟩ = some (.slice ex lx mx)) ∧ w'.cell? ⟨w.heap.size + 1, 0, none⟩ = some (.bool bv) ∧ w'.cell? ⟨w.heap.size + 1, 1, none⟩ = some (.slice av kv cv) ∧ w'.cell? ⟨w.heap.size + 1, 2, none⟩ = some (.bool dv) ∧ w'.cell? ⟨w.heap.size + 1, 3, none⟩ = some (.slice ev lv mv))) (by kernel_rfl) ⟨gy0, gy1, ⟨gx0, gx1, gx2, gx3⟩, ⟨gv0, gv1, gv2, gv3⟩⟩ (fun hR0 => ?_)
  change wpAnyH _ _ _ _ _ 8 #[false, false, false, false, false, false, false, false] _ _
  clear gy0 gy1 gx0 gx1 gx2 gx3 gv0 gv1 gv2 gv3
  refine tz 0 ?_
  (try simp only [Act.put, sa, List.set])
  refine tz 1 ?_
  (try simp only [Act.put, sa, List.set])
  refine tz 2 ?_
  (try simp only [Act.put, sa, List.set])
  refine tz 3 ?_
  (try simp only [Act.put, sa, List.set])
  refine tz 4 ?_
  (try simp only [Act.put, sa, List.set])
  refine rz 5 fun K hK => ?_
  go_simp
  go_at_call 118; have hBd := hB.drew; refine (HD.out _ _ _ (by exact gxd) (by exact gvd)).mono ?_; rintro e w2 ⟨⟨v4, rfl, g4⟩, hb⟩; replace hb := (Below.refl w1.heap.size w1).drew.trans hb; replace xx := xx.on hb; replace xv := xv.on hb; replace xr := xr.on hb; replace xy := xy.on hb; replace gxd := gxd.on hb; replace gvd := gvd.on hb; replace gs := gs.on hb; replace hB := hB.trans (hb.mono hB.size); have hz2 := hb.size
  (try go_wp2_with fail)
  refine hK.out _ _ (⟨(hb.cell (p := ⟨Ay, 0, none⟩) qy).trans hR0.1, (hb.cell (p := ⟨Ay, 1, none⟩) qy).trans hR0.2.1, keep4 hb qx hR0.2.2.1, keep4 hb qv hR0.2.2.2⟩) (fun hR1 => ?_)
  clear hK K hR0
  (try simp only [Act.put, sa, List.set])
  replace qy := Nat.lt_of_lt_of_le qy hz2; replace qx := Nat.lt_of_lt_of_le qx hz2; replace qv := Nat.lt_of_lt_of_le qv hz2; clear hb hBd
  refine rz 6 fun K hK => ?_
  go_simp
  go_at_call 86; have hBd := hB; refine (HL.out _ _ _ gs g4).mono ?_; rintro e w3 ⟨⟨v5, rfl, gy⟩, hb⟩; obtain ⟨bg, ag, kg, cg, dg, eg, lg, mg, rfl⟩ := gy.opened; replace xx := xx.on hb; replace xv := xv.on hb; replace xr := xr.on hb; replace xy := xy.on hb; replace gxd := gxd.on hb; replace gvd := gvd.on hb; replace gs := gs.on hb; replace g4 := g4.on hb; replace hB := hB.trans (hb.mono hB.size); have hz3 := hb.size
  (try go_wp2_with fail)
  refine hK.out _ _ (⟨(hb.cell (p := ⟨Ay, 0, none⟩) qy).trans hR1.1, (hb.cell (p := ⟨Ay, 1, none⟩) qy).trans hR1.2.1, keep4 hb qx hR1.2.2.1, keep4 hb qv hR1.2.2.2⟩) (fun hR2 => ?_)
  clear hK K hR1
  (try simp only [Act.put, sa, List.set])
  replace qy := Nat.lt_of_lt_of_le qy hz3; replace qx := Nat.lt_of_lt_of_le qx hz3; replace qv := Nat.lt_of_lt_of_le qv hz3; clear hb hBd
  have pr := xr.all4
  refine rz 7 fun K hK => ?_
  go_simp
  refine hK.out _ _ (⟨cell_store4 hR2.1 (by omega), cell_store4 hR2.2.1 (by omega), stay4 hR2.2.2.1 (by omega), stay4 hR2.2.2.2 (by omega)⟩) (fun hR3 => ?_)
  clear hK K hR2
  (try simp only [Act.put, sa, List.set])
  clear pr; replace gxd := gxd.setB4 xr rfl (.bool bg) (.slice ag kg cg) (.bool dg) (.slice eg lg mg) rfl; replace gvd := gvd.setB4 xr rfl (.bool bg) (.slice ag kg cg) (.bool dg) (.slice eg lg mg) rfl; replace gs := gs.setB4 xr rfl (.bool bg) (.slice ag kg cg) (.bool dg) (.slice eg lg mg) rfl; replace g4 := g4.setB4 xr rfl (.bool bg) (.slice ag kg cg) (.bool dg) (.slice eg lg mg) rfl; replace gy := gy.setB4 xr rfl (.bool bg) (.slice ag kg cg) (.bool dg) (.slice eg lg mg) rfl; replace xx := xx.put_other4 (w.heap.size + 1 + 1) (.bool bg) (.slice ag kg cg) (.bool dg) (.slice eg lg mg) (by omega); replace xv := xv.put_other4 (w.heap.size + 1 + 1) (.bool bg) (.slice ag kg cg) (.bool dg) (.slice eg lg mg) (by omega); replace xy := xy.put_other4 (w.heap.size + 1 + 1) (.bool bg) (.slice ag kg cg) (.bool dg) (.slice eg lg mg) (by omega); replace xr := xr.put4 (.bool bg) (.slice ag kg cg) (.bool dg) (.slice eg lg mg); replace hB := below4 hB (w.heap.size + 1 + 1) (by first | omega | (simp; omega) | simp) (.bool bg) (.slice ag kg cg) (.bool dg) (.slice eg lg mg)
  refine wpAnyH_done (by kernel_rfl) ?_ _
  refine NoPanic.normal ?_
  clear hR3 qy qx qv g4 gs gxd gvd xx xv xy
  have pr := xr.all4
  have ltr := xr.lt
  go_wp2
  clear ltr pr
  generalize ((((w3.setCell ⟨w.heap.size + 1 + 1, 0, none⟩ (.bool bg)).setCell ⟨w.heap.size + 1 + 1, 1, none⟩ (.slice ag kg cg)).setCell ⟨w.heap.size + 1 + 1, 2, none⟩ (.bool dg)).setCell ⟨w.heap.size + 1 + 1, 3, none⟩ (.slice eg lg mg)) = WF at *
  have pr := xr.all4
  have ltr := xr.lt
  exact bodyPost_ret (v := .agg #[.bool bg, .slice ag kg cg, .bool dg, .slice eg lg mg]) (by simp [results, Tryz.results41, go_sem, pr]) rfl ⟨⟨_, rfl, gy⟩, hB⟩
theorem ref2Plus_num (va vb : Value) (q u : Rat) (sq : Fz 2000 2000 q) (su : Fz 2000 2000 u) (w : World) (h : Fra w va q) (g : Fra w vb u) : Calls Tryz.prog 41 #[va, vb] w fun e w' => (∃ v, e = .returned v ∧ Fra w' v (q + u)) ∧ Below w.heap.size w w' := by
 obtain ⟨b, a, k, c, d, e, l, m, rfl⟩ := h.opened
 obtain ⟨b2, a2, k2, c2, d2, e2, l2, m2, rfl⟩ := g.opened
 exact ref2Plus_raw b a k c d e l m b2 a2 k2 c2 d2 e2 l2 m2 q u sq su w h g
theorem ref2Valid_fra (v : Value) (q : Rat) (hq : Fz 256 256 q) (w : World) (h : Fra w v q) : Calls Tryz.prog 104 #[v] w fun e w' => e = .returned (.bool true) ∧ Below w.heap.size w w' := by
 obtain ⟨b, a, k, c, d, e, l, m, rfl⟩ := h.opened
 obtain ⟨e1, e2, h1, h2⟩ := fra_nums h
 subst e1; subst e2
 have r := ref2Valid_any (decide (q.num < 0)) a k c false e l m (dig q.num.natAbs) (dig q.den) w (lim_of_num h1).2 (dig_Lm _) (by have h3 := (lim_of_num h2).2; rwa [Int.natAbs_natCast] at h3) (dig_Lm _)
 rwa [fvld_fra hq] at r
theorem ref2Add_raw (bx : Bool) (ax : Option Addr) (kx cx : Nat) (dx : Bool) (ex : Option Addr) (lx mx : Nat) (bv : Bool) (av : Option Addr) (kv cv : Nat) (dv : Bool) (ev : Option Addr) (lv mv : Nat) (q u : Rat) (sq : Fz 256 256 q) (su : Fz 256 256 u) (w : World) (gx : Fra w (.agg #[.bool bx, .slice ax kx cx, .bool dx, .slice ex lx mx]) q) (gv : Fra w (.agg #[.bool bv, .slice av kv cv, .bool dv, .slice ev lv mv]) u) :
  Calls Tryz.prog 44 #[.agg #[.bool bx, .slice ax kx cx, .bool dx, .slice ex lx mx], .agg #[.bool bv, .slice av kv cv, .bool dv, .slice ev lv mv]] w fun e w' => (∃ v c, e = .returned (.tuple #[v, .int .i64 c]) ∧ AnsF w' (fitF (q + u)) 3 v c) ∧ Below w.heap.size w w' := by
 have HX := Lib.hid (fun W (hW : Below w.heap.size w W) => ref2Valid_fra _ q sq W (gx.below hW (Nat.le_refl _)))
 have HV := Lib.hid (fun W (hW : Below w.heap.size w W) => ref2Valid_fra _ u su W (gv.below hW (Nat.le_refl _)))
 have HS := Lib.hid (fun W (hW : Below w.heap.size w W) => ref2Plus_num _ _ q u (sq.mono (by decide) (by decide)) (su.mono (by decide) (by decide)) W (gx.below hW (Nat.le_refl _)) (gv.below hW (Nat.le_refl _)))
 have HT := Lib.hid (fun v W (h : Fra W v (q + u)) => told_ans v (q + u) W h)
 clear gx gv sq su
 have hB := Below.refl w.heap.size w
 obtain ⟨al, xx, hN⟩ := mk hB #[.bool bx, .slice ax kx cx, .bool dx, .slice ex lx mx] 39
 replace hB := hN; clear al hN
 try simp only [World.size_alloc] at xx
 obtain ⟨al, xv, hN⟩ := mk hB #[.bool bv, .slice av kv cv, .bool dv, .slice ev lv mv] 39
 replace xx := xx.on al; replace hB := hN; clear al hN
 try simp only [World.size_alloc] at xv
 obtain ⟨al, xr, hN⟩ := mk hB #[.bool false, .slice none 0 0, .bool false, .slice none 0 0] 39
 replace xx := xx.on al; replace xv := xv.on al; replace hB := hN; clear al hN
 try simp only [World.size_alloc] at xr
 go_enter Tryz.func44, Tryz.ntmps44
 have px := xx.all4
 have pv := xv.all4
 have pr := xr.all4
 have ltx := xx.lt
 have ltv := xv.lt
 have ltr := xr.lt
 go_wp2_with fail
 clear ltx ltv ltr px pv pr
 refine (HX.out _ hB).mono ?_
 rintro e w1 ⟨rfl, hb⟩
 replace xx := xx.on hb; replace xv := xv.on hb; replace xr := xr.on hb
 have hz1 := hb.size
 try simp at hz1
 replace hB := hB.trans (hb.mono hB.size); clear hb
 have px := xx.all4
 have pv := xv.all4
 have pr := xr.all4
 have ltx := xx.lt
 have ltv := xv.lt
 have ltr := xr.lt
 go_wp2_with fail
 clear ltx ltv ltr px pv pr
 refine (HV.out _ hB).mono ?_
 rintro e w2 ⟨rfl, hb⟩
 replace xx := xx.on hb; replace xv := xv.on hb; replace xr := xr.on hb
 have hz2 := hb.size
 try simp at hz2
 replace hB := hB.trans (hb.mono hB.size); clear hb
 have px := xx.all4
 have pv := xv.all4
 have pr := xr.all4
 have ltx := xx.lt
 have ltv := xv.lt
 have ltr := xr.lt
 go_wp2_with fail
 clear ltx ltv ltr px pv pr
 refine (HS.out _ hB).mono ?_
 rintro e w3 ⟨⟨v2, rfl, g2⟩, hb⟩
 replace xx := xx.on hb; replace xv := xv.on hb; replace xr := xr.on hb
 have hz3 := hb.size
 try simp at hz3
 replace hB := hB.trans (hb.mono hB.size); clear hb xx xv
 have pr := xr.all4
 have ltr := xr.lt
 go_wp2_with fail
 clear ltr pr
 refine (HT.out _ _ g2).mono ?_
 rintro e w4 ⟨⟨v3, c3, rfl, gy⟩, hb⟩
 clear g2
 obtain ⟨bg, ag, kg, cg, dg, eg, lg, mg, rfl⟩ := gy.opened
 replace xr := xr.on hb; replace hB := hB.trans (hb.mono hB.size); clear hb
 have pr := xr.all4
 have ltr := xr.lt
 go_wp2
 clear ltr pr; replace gy := gy.setB4 xr rfl (.bool bg) (.slice ag kg cg) (.bool dg) (.slice eg lg mg) rfl; replace xr := xr.put4 (.bool bg) (.slice ag kg cg) (.bool dg) (.slice eg lg mg); replace hB := below4 hB (w.heap.size + 1 + 1) (by first | omega | (simp; omega) | simp) (.bool bg) (.slice ag kg cg) (.bool dg) (.slice eg lg mg)
 generalize ((((w4.setCell ⟨w.heap.size + 1 + 1, 0, none⟩ (.bool bg)).setCell ⟨w.heap.size + 1 + 1, 1, none⟩ (.slice ag kg cg)).setCell ⟨w.heap.size + 1 + 1, 2, none⟩ (.bool dg)).setCell ⟨w.heap.size + 1 + 1, 3, none⟩ (.slice eg lg mg)) = WF at *
 have pr := xr.all4
 have ltr := xr.lt
 exact bodyPost_ret (v := .tuple #[.agg #[.bool bg, .slice ag kg cg, .bool dg, .slice eg lg mg], .int .i64 c3]) (by simp [results, Tryz.results44, go_sem, pr]) rfl ⟨⟨_, _, rfl, gy⟩, hB⟩
theorem ref2Add_ans (va vb : Value) (q u : Rat) (sq : Fz 256 256 q) (su : Fz 256 256 u) (w : World) (h : Fra w va q) (g : Fra w vb u) : Calls Tryz.prog 44 #[va, vb] w fun e w' => (∃ v c, e = .returned (.tuple #[v, .int .i64 c]) ∧ AnsF w' (fitF (q + u)) 3 v c) ∧ Below w.heap.size w w' := by
 obtain ⟨b, a, k, c, d, e, l, m, rfl⟩ := h.opened
 obtain ⟨b2, a2, k2, c2, d2, e2, l2, m2, rfl⟩ := g.opened
 exact ref2Add_raw b a k c d e l m b2 a2 k2 c2 d2 e2 l2 m2 q u sq su w h g
theorem frAdd_ans (va vb : Value) (q u : Rat) (sq : Fz 256 256 q) (su : Fz 256 256 u) (w : World) (h : Fra w va q) (g : Fra w vb u) : Calls Tryz.prog 43 #[va, vb] w fun e w' => (∃ v c, e = .returned (.tuple #[v, .int .i64 c]) ∧ AnsF w' (fitF (q + u)) 3 v c) ∧ Below w.heap.size w w' := by
  obtain ⟨b, a, k, c, d, e, l, m, rfl⟩ := h.opened
  obtain ⟨b2, a2, k2, c2, d2, e2, l2, m2, rfl⟩ := g.opened
  by_cases hf : Fz 256 256 (q + u)
  · refine (frAdd_ok q u b a k c d e l m b2 a2 k2 c2 d2 e2 l2 m2 sq su hf w h g).mono ?_
    rintro e w' ⟨⟨v, rfl, hv⟩, hb⟩
    exact ⟨⟨_, _, rfl, .inl ⟨_, fitF_fz hf, rfl, hv.fra⟩⟩, hb⟩
  · refine (frAdd_long q u b a k c d e l m b2 a2 k2 c2 d2 e2 l2 m2 sq su hf w h g).mono ?_
    rintro e w' ⟨rfl, hb⟩
    exact ⟨⟨_, _, rfl, .inr ⟨fitF_not hf, rfl, rfl⟩⟩, hb⟩
theorem ref2Mul_raw (bx : Bool) (ax : Option Addr) (kx cx : Nat) (dx : Bool) (ex : Option Addr) (lx mx : Nat) (bv : Bool) (av : Option Addr) (kv cv : Nat) (dv : Bool) (ev : Option Addr) (lv mv : Nat) (q u : Rat) (sq : Fz 256 256 q) (su : Fz 256 256 u) (w : World) (gx : Fra w (.agg #[.bool bx, .slice ax kx cx, .bool dx, .slice ex lx mx]) q) (gv : Fra w (.agg #[.bool bv, .slice av kv cv, .bool dv, .slice ev lv mv]) u) :
  Calls Tryz.prog 46 #[.agg #[.bool bx, .slice ax kx cx, .bool dx, .slice ex lx mx], .agg #[.bool bv, .slice av kv cv, .bool dv, .slice ev lv mv]] w fun e w' => (∃ v c, e = .returned (.tuple #[v, .int .i64 c]) ∧ AnsF w' (fitF (q * u)) 3 v c) ∧ Below w.heap.size w w' := by
 have HX := Lib.hid (fun W (hW : Below w.heap.size w W) => ref2Valid_fra _ q sq W (gx.below hW (Nat.le_refl _)))
 have HV := Lib.hid (fun W (hW : Below w.heap.size w W) => ref2Valid_fra _ u su W (gv.below hW (Nat.le_refl _)))
 have HS := Lib.hid (fun W (hW : Below w.heap.size w W) => ref2Times_num _ _ q u (sq.mono (by decide) (by decide)) (su.mono (by decide) (by decide)) W (gx.below hW (Nat.le_refl _)) (gv.below hW (Nat.le_refl _)))
 have HT := Lib.hid (fun v W (h : Fra W v (q * u)) => told_ans v (q * u) W h)
 clear gx gv sq su
 have hB := Below.refl w.heap.size w
 obtain ⟨al, xx, hN⟩ := mk hB #[.bool bx, .slice ax kx cx, .bool dx, .slice ex lx mx] 39
 replace hB := hN; clear al hN
 try simp only [World.size_alloc] at xx
 obtain ⟨al, xv, hN⟩ := mk hB #[.bool bv, .slice av kv cv, .bool dv, .slice ev lv mv] 39
 replace xx := xx.on al; replace hB := hN; clear al hN
 try simp only [World.size_alloc] at xv
 obtain ⟨al, xr, hN⟩ := mk hB #[.bool false, .slice none 0 0, .bool false, .slice none 0 0] 39
 replace xx := xx.on al; replace xv := xv.on al; replace hB := hN; clear al hN
 try simp only [World.size_alloc] at xr
 go_enter Tryz.func46, Tryz.ntmps46
 have px := xx.all4
 have pv := xv.all4
 have pr := xr.all4
 have ltx := xx.lt
 have ltv := xv.lt
 have ltr := xr.lt
 go_wp2_with fail
 clear ltx ltv ltr px pv pr
 refine (HX.out _ hB).mono ?_
 rintro e w1 ⟨rfl, hb⟩
 replace xx := xx.on hb; replace xv := xv.on hb; replace xr := xr.on hb
 have hz1 := hb.size
 try simp at hz1
 replace hB := hB.trans (hb.mono hB.size); clear hb
 have px := xx.all4
 have pv := xv.all4
 have pr := xr.all4
 have ltx := xx.lt
 have ltv := xv.lt
 have ltr := xr.lt
 go_wp2_with fail
 clear ltx ltv ltr px pv pr
 refine (HV.out _ hB).mono ?_
 rintro e w2 ⟨rfl, hb⟩
 replace xx := xx.on hb; replace xv := xv.on hb; replace xr := xr.on hb
 have hz2 := hb.size
 try simp at hz2
 replace hB := hB.trans (hb.mono hB.size); clear hb
 have px := xx.all4
 have pv := xv.all4
 have pr := xr.all4
 have ltx := xx.lt
 have ltv := xv.lt
 have ltr := xr.lt
 go_wp2_with fail
 clear ltx ltv ltr px pv pr
 refine (HS.out _ hB).mono ?_
 rintro e w3 ⟨⟨v2, rfl, g2⟩, hb⟩
 replace xx := xx.on hb; replace xv := xv.on hb; replace xr := xr.on hb
 have hz3 := hb.size
 try simp at hz3
 replace hB := hB.trans (hb.mono hB.size); clear hb xx xv
 have pr := xr.all4
 have ltr := xr.lt
 go_wp2_with fail
 clear ltr pr
 refine (HT.out _ _ g2).mono ?_
 rintro e w4 ⟨⟨v3, c3, rfl, gy⟩, hb⟩
 clear g2
 obtain ⟨bg, ag, kg, cg, dg, eg, lg, mg, rfl⟩ := gy.opened
 replace xr := xr.on hb; replace hB := hB.trans (hb.mono hB.size); clear hb
 have pr := xr.all4
 have ltr := xr.lt
 go_wp2
 clear ltr pr; replace gy := gy.setB4 xr rfl (.bool bg) (.slice ag kg cg) (.bool dg) (.slice eg lg mg) rfl; replace xr := xr.put4 (.bool bg) (.slice ag kg cg) (.bool dg) (.slice eg lg mg); replace hB := below4 hB (w.heap.size + 1 + 1) (by first | omega | (simp; omega) | simp) (.bool bg) (.slice ag kg cg) (.bool dg) (.slice eg lg mg)
 generalize ((((w4.setCell ⟨w.heap.size + 1 + 1, 0, none⟩ (.bool bg)).setCell ⟨w.heap.size + 1 + 1, 1, none⟩ (.slice ag kg cg)).setCell ⟨w.heap.size + 1 + 1, 2, none⟩ (.bool dg)).setCell ⟨w.heap.size + 1 + 1, 3, none⟩ (.slice eg lg mg)) = WF at *
 have pr := xr.all4
 have ltr := xr.lt
 exact bodyPost_ret (v := .tuple #[.agg #[.bool bg, .slice ag kg cg, .bool dg, .slice eg lg mg], .int .i64 c3]) (by simp [results, Tryz.results46, go_sem, pr]) rfl ⟨⟨_, _, rfl, gy⟩, hB⟩
theorem ref2Mul_ans (va vb : Value) (q u : Rat) (sq : Fz 256 256 q) (su : Fz 256 256 u) (w : World) (h : Fra w va q) (g : Fra w vb u) : Calls Tryz.prog 46 #[va, vb] w fun e w' => (∃ v c, e = .returned (.tuple #[v, .int .i64 c]) ∧ AnsF w' (fitF (q * u)) 3 v c) ∧ Below w.heap.size w w' := by
 obtain ⟨b, a, k, c, d, e, l, m, rfl⟩ := h.opened
 obtain ⟨b2, a2, k2, c2, d2, e2, l2, m2, rfl⟩ := g.opened
 exact ref2Mul_raw b a k c d e l m b2 a2 k2 c2 d2 e2 l2 m2 q u sq su w h g
theorem frMul_ans (va vb : Value) (q u : Rat) (sq : Fz 256 256 q) (su : Fz 256 256 u) (w : World) (h : Fra w va q) (g : Fra w vb u) : Calls Tryz.prog 45 #[va, vb] w fun e w' => (∃ v c, e = .returned (.tuple #[v, .int .i64 c]) ∧ AnsF w' (fitF (q * u)) 3 v c) ∧ Below w.heap.size w w' := by
  obtain ⟨b, a, k, c, d, e, l, m, rfl⟩ := h.opened
  obtain ⟨b2, a2, k2, c2, d2, e2, l2, m2, rfl⟩ := g.opened
  by_cases hf : Fz 256 256 (q * u)
  · refine (frMul_ok q u b a k c d e l m b2 a2 k2 c2 d2 e2 l2 m2 sq su hf w h g).mono ?_
    rintro e w' ⟨⟨v, rfl, hv⟩, hb⟩
    exact ⟨⟨_, _, rfl, .inl ⟨_, fitF_fz hf, rfl, hv.fra⟩⟩, hb⟩
  · refine (frMul_long q u b a k c d e l m b2 a2 k2 c2 d2 e2 l2 m2 sq su hf w h g).mono ?_
    rintro e w' ⟨rfl, hb⟩
    exact ⟨⟨_, _, rfl, .inr ⟨fitF_not hf, rfl, rfl⟩⟩, hb⟩
end Go.Proofs.YtmbcnfogjncdaaaGreat
