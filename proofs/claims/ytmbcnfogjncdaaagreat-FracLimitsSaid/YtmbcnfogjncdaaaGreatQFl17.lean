/- A part of the proofs about fractions. -/
import Derived.Deep.DeepCutAuto
import Derived.Deep.RegionHeld3
import Derived.Outline
import Derived.RegionTactic
import Derived.WalkSpells
import Derived.Test.YtmbcnfogjncdaaaGreatQFl1
import Derived.Test.YtmbcnfogjncdaaaGreatQFl11
import Derived.Test.YtmbcnfogjncdaaaGreatQFl16
set_option maxRecDepth 100000
set_option maxHeartbeats 4000000
namespace Go.Proofs.YtmbcnfogjncdaaaGreat
open Go.RowKit Wh
theorem frsum_any (p q : Rat) (bx : Bool) (ax : Option Addr) (kx cx : Nat) (dx : Bool) (ex : Option Addr) (lx mx : Nat) (bY : Bool) (ay : Option Addr) (ky cy : Nat) (dy : Bool) (ey : Option Addr) (ly my : Nat) (hp : Fz 256 256 p) (hq : Fz 256 256 q) (w : World)
  (fx : Fra w (.agg #[.bool bx, .slice ax kx cx, .bool dx, .slice ex lx mx]) p) (fy : Fra w (.agg #[.bool bY, .slice ay ky cy, .bool dy, .slice ey ly my]) q) :
  Calls Tryz.prog 126 #[.agg #[.bool bx, .slice ax kx cx, .bool dx, .slice ex lx mx], .agg #[.bool bY, .slice ay ky cy, .bool dy, .slice ey ly my]] w fun e w' => (∃ vn vd, e = .returned (.tuple #[vn, vd]) ∧ NumF w.heap.size w' vn (p.num * q.den + q.num * p.den) ∧ NumF w.heap.size w' vd ((p.den : Int) * q.den)) ∧ Below w.heap.size w w' := by
 obtain ⟨-, -, nx, dnx⟩ := fra_nums fx
 obtain ⟨-, -, ny, dny⟩ := fra_nums fy
 obtain ⟨h1, h1d⟩ := hp
 obtain ⟨h2, h2d⟩ := hq
 clear fx fy
 have Hta := Lib.hid (fun W (hW : Below w.heap.size w W) => frtimes_any (.agg #[.bool bx, .slice ax kx cx]) (.agg #[.bool dy, .slice ey ly my]) p.num (q.den : Int) _ rfl (h1.mono (by decide)) (h2d.mono (by decide)) ((Sz.mul h1 h2d).mono (by decide)) W (nx.below hW (Nat.le_refl _)) (dny.below hW (Nat.le_refl _)))
 have Htb := Lib.hid (fun W (hW : Below w.heap.size w W) => frtimes_any (.agg #[.bool bY, .slice ay ky cy]) (.agg #[.bool dx, .slice ex lx mx]) q.num (p.den : Int) _ rfl (h2.mono (by decide)) (h1d.mono (by decide)) ((Sz.mul h2 h1d).mono (by decide)) W (ny.below hW (Nat.le_refl _)) (dnx.below hW (Nat.le_refl _)))
 have Htc := Lib.hid (fun va vb W h g => frplus_any va vb (p.num * q.den) (q.num * p.den) _ rfl ((Sz.mul h1 h2d).mono (by decide)) ((Sz.mul h2 h1d).mono (by decide)) ((Sz.add (Sz.mul h1 h2d) (Sz.mul h2 h1d)).mono (by decide)) W h g)
 have Htd := Lib.hid (fun W (hW : Below w.heap.size w W) => frtimes_any (.agg #[.bool dx, .slice ex lx mx]) (.agg #[.bool dy, .slice ey ly my]) (p.den : Int) (q.den : Int) _ rfl (h1d.mono (by decide)) (h2d.mono (by decide)) ((Sz.mul h1d h2d).mono (by decide)) W (dnx.below hW (Nat.le_refl _)) (dny.below hW (Nat.le_refl _)))
 clear h1 h1d h2 h2d nx dnx ny dny
 have hB := ((((Below.refl w.heap.size w).alloc (Nat.le_refl _) (.cells #[.bool bx, .slice ax kx cx, .bool dx, .slice ex lx mx] 101)).alloc (by simp) (.cells #[.bool bY, .slice ay ky cy, .bool dy, .slice ey ly my] 101)).alloc (by simp <;> omega) (.cells #[.bool false, .slice none 0 0] 24)).alloc (by simp <;> omega) (.cells #[.bool false, .slice none 0 0] 24)
 have xx := (((Bk.new w #[.bool bx, .slice ax kx cx, .bool dx, .slice ex lx mx] 101).alloc (.cells #[.bool bY, .slice ay ky cy, .bool dy, .slice ey ly my] 101)).alloc (.cells #[.bool false, .slice none 0 0] 24)).alloc (.cells #[.bool false, .slice none 0 0] 24)
 have xy := ((Bk.new (w.alloc (.cells #[.bool bx, .slice ax kx cx, .bool dx, .slice ex lx mx] 101)) #[.bool bY, .slice ay ky cy, .bool dy, .slice ey ly my] 101).alloc (.cells #[.bool false, .slice none 0 0] 24)).alloc (.cells #[.bool false, .slice none 0 0] 24)
 have xn := (Bk.new ((w.alloc (.cells #[.bool bx, .slice ax kx cx, .bool dx, .slice ex lx mx] 101)).alloc (.cells #[.bool bY, .slice ay ky cy, .bool dy, .slice ey ly my] 101)) #[.bool false, .slice none 0 0] 24).alloc (.cells #[.bool false, .slice none 0 0] 24)
 have xd := Bk.new (((w.alloc (.cells #[.bool bx, .slice ax kx cx, .bool dx, .slice ex lx mx] 101)).alloc (.cells #[.bool bY, .slice ay ky cy, .bool dy, .slice ey ly my] 101)).alloc (.cells #[.bool false, .slice none 0 0] 24)) #[.bool false, .slice none 0 0] 24
 simp only [World.size_alloc] at xy xn xd
 have hsz : ((((w.alloc (.cells #[.bool bx, .slice ax kx cx, .bool dx, .slice ex lx mx] 101)).alloc (.cells #[.bool bY, .slice ay ky cy, .bool dy, .slice ey ly my] 101)).alloc (.cells #[.bool false, .slice none 0 0] 24)).alloc (.cells #[.bool false, .slice none 0 0] 24)).heap.size = w.heap.size + 1 + 1 + 1 + 1 := by simp only [World.size_alloc]
 obtain ⟨W0, hW0⟩ : ∃ W0, W0 = ((((w.alloc (.cells #[.bool bx, .slice ax kx cx, .bool dx, .slice ex lx mx] 101)).alloc (.cells #[.bool bY, .slice ay ky cy, .bool dy, .slice ey ly my] 101)).alloc (.cells #[.bool false, .slice none 0 0] 24)).alloc (.cells #[.bool false, .slice none 0 0] 24)) := ⟨_, rfl⟩
 rw [← hW0] at hB xx xy xn xd hsz
 go_enter Tryz.func126, Tryz.ntmps126
 go_wp2_with fail
 rw [← hW0]
 clear hW0
 have q0 : w.heap.size < W0.heap.size := by omega
 have q1 : w.heap.size + 1 < W0.heap.size := by omega
 have q2 : w.heap.size + 1 + 1 < W0.heap.size := by omega
 have q3 : w.heap.size + 1 + 1 + 1 < W0.heap.size := by omega
 clear hsz
 have qq2 := q2
 have qq3 := q3
 obtain ⟨x0, x1, x2, x3⟩ := xx.cells4
 obtain ⟨y0, y1, y2, y3⟩ := xy.cells4
 refine wp_region_noPanic ?_
 refine wp_region_held_drew (S := (fun w' => (w'.cell? ⟨w.heap.size, 0, none⟩ = some (.bool bx) ∧ w'.cell? ⟨w.heap.size, 1, none⟩ = some (.slice ax kx cx) ∧ w'.cell? ⟨w.heap.size, 2, none⟩ = some (.bool dx) ∧ w'.cell? ⟨w.heap.size, 3, none⟩ = some (.slice ex lx mx)) ∧ w'.cell? ⟨w.heap.size + 1, 0, none⟩ = some (.bool bY) ∧ w'.cell? ⟨w.heap.size + 1, 1, none⟩ = some (.slice ay ky cy) ∧ w'.cell? ⟨w.heap.size + 1, 2, none⟩ = some (.bool dy) ∧ w'.cell? ⟨w.heap.size + 1, 3, none⟩ = some (.slice ey ly my))) (by kernel_rfl) ⟨⟨x0, x1, x2, x3⟩, ⟨y0, y1, y2, y3⟩⟩ (fun hR0 => ?_)
 change wpAnyH _ _ _ _ _ 24 #[false, false, false, false, false, false, false, false, false, false, false, false, false, false, false, false, false, false, false, false, false, false, false, false] _ _
 clear x0 x1 x2 x3 y0 y1 y2 y3 xx xy
 refine tz 0 ?_
 (try simp only [Act.put, sa, List.set])
 refine tz 1 ?_
 (try simp only [Act.put, sa, List.set])
 refine tz 2 ?_
 (try simp only [Act.put, sa, List.set])
 refine tz 3 ?_
 (try simp only [Act.put, sa, List.set])
 refine tz 4 ?_
 (try simp only [Act.put, sa, List.set])
 refine tz 5 ?_
 (try simp only [Act.put, sa, List.set])
 refine tz 7 ?_
 (try simp only [Act.put, sa, List.set])
 refine tz 8 ?_
 (try simp only [Act.put, sa, List.set])
 refine tz 9 ?_
 (try simp only [Act.put, sa, List.set])
 refine tz 10 ?_
 (try simp only [Act.put, sa, List.set])
 refine tz 11 ?_
 (try simp only [Act.put, sa, List.set])
 refine tz 12 ?_
 (try simp only [Act.put, sa, List.set])
 refine tz 15 ?_
 (try simp only [Act.put, sa, List.set])
 refine tz 16 ?_
 (try simp only [Act.put, sa, List.set])
 refine tz 17 ?_
 (try simp only [Act.put, sa, List.set])
 refine tz 18 ?_
 (try simp only [Act.put, sa, List.set])
 refine tz 19 ?_
 (try simp only [Act.put, sa, List.set])
 refine tz 20 ?_
 (try simp only [Act.put, sa, List.set])
 refine rz 6 fun K hK => ?_
 go_simp
 go_at_call 115; have hBd := hB.drew; refine (Hta.out _ hBd).mono ?_; rintro e w1 ⟨⟨vta, rfl, ta⟩, hb⟩; obtain ⟨bta, ata, kta, cta, rfl⟩ := ta.num.opened; replace ta : NumF W0.heap.size w1 _ _ := ta; replace hb := (Below.refl W0.heap.size W0).drew.trans hb; replace xn := xn.on hb; replace xd := xd.on hb; replace hB := hB.trans (hb.mono hB.size); have hs := hb.size
 (try go_wp2_with fail)
 refine hK.out _ _ (⟨keep4 hb q0 hR0.1, keep4 hb q1 hR0.2⟩) (fun hR1 => ?_)
 clear hK K hR0
 (try simp only [Act.put, sa, List.set])
 replace q0 := Nat.lt_of_lt_of_le q0 hs; replace q1 := Nat.lt_of_lt_of_le q1 hs; replace q2 := Nat.lt_of_lt_of_le q2 hs; replace q3 := Nat.lt_of_lt_of_le q3 hs
 have zz1 := hs
 clear hb hs hBd
 refine rz 13 fun K hK => ?_
 go_simp
 go_at_call 115; have hBd := hB; refine (Htb.out _ hBd).mono ?_; rintro e w2 ⟨⟨vtb, rfl, tb⟩, hb⟩; obtain ⟨btb, atb, ktb, ctb, rfl⟩ := tb.num.opened; replace ta := ta.below hb; replace xn := xn.on hb; replace xd := xd.on hb; replace hB := hB.trans (hb.mono hB.size); have hs := hb.size
 (try go_wp2_with fail)
 refine hK.out _ _ (⟨keep4 hb q0 hR1.1, keep4 hb q1 hR1.2⟩) (fun hR2 => ?_)
 clear hK K hR1
 (try simp only [Act.put, sa, List.set])
 replace q0 := Nat.lt_of_lt_of_le q0 hs; replace q1 := Nat.lt_of_lt_of_le q1 hs; replace q2 := Nat.lt_of_lt_of_le q2 hs; replace q3 := Nat.lt_of_lt_of_le q3 hs
 have zz2 := Nat.le_trans zz1 hs
 clear hb hs hBd
 refine rz 14 fun K hK => ?_
 go_simp
 go_at_call 147; refine (Htc.out _ _ _ ta.num tb.num).mono ?_; rintro e w3 ⟨⟨vtc, rfl, tc⟩, hb⟩; obtain ⟨btc, atc, ktc, ctc, rfl⟩ := tc.num.opened; replace ta := ta.below hb; replace tb := tb.below hb; replace xn := xn.on hb; replace xd := xd.on hb; replace hB := hB.trans (hb.mono hB.size); have hs := hb.size
 (try go_wp2_with fail)
 refine hK.out _ _ (⟨keep4 hb q0 hR2.1, keep4 hb q1 hR2.2⟩) (fun hR3 => ?_)
 clear hK K hR2
 (try simp only [Act.put, sa, List.set])
 replace q0 := Nat.lt_of_lt_of_le q0 hs; replace q1 := Nat.lt_of_lt_of_le q1 hs; replace q2 := Nat.lt_of_lt_of_le q2 hs; replace q3 := Nat.lt_of_lt_of_le q3 hs
 have zz3 := Nat.le_trans zz2 hs
 clear hb hs
 refine rz 21 fun K hK => ?_
 go_simp
 go_at_call 115; have hBd := hB; refine (Htd.out _ hBd).mono ?_; rintro e w4 ⟨⟨vtd, rfl, td⟩, hb⟩; obtain ⟨btd, atd, ktd, ctd, rfl⟩ := td.num.opened; replace ta := ta.below hb; replace tb := tb.below hb; replace tc := tc.below hb; replace xn := xn.on hb; replace xd := xd.on hb; replace hB := hB.trans (hb.mono hB.size); have hs := hb.size
 (try go_wp2_with fail)
 refine hK.out _ _ (⟨keep4 hb q0 hR3.1, keep4 hb q1 hR3.2⟩) (fun hR4 => ?_)
 clear hK K hR3
 (try simp only [Act.put, sa, List.set])
 replace q0 := Nat.lt_of_lt_of_le q0 hs; replace q1 := Nat.lt_of_lt_of_le q1 hs; replace q2 := Nat.lt_of_lt_of_le q2 hs; replace q3 := Nat.lt_of_lt_of_le q3 hs
 have zz4 := Nat.le_trans zz3 hs
 clear hb hs hBd
 have pn0 := xn.cell 0
 have pn1 := xn.cell 1
 have fn0 := xn.free 0
 have fn1 := xn.free 1
 simp only [List.getElem?_toArray, List.getElem?_cons_zero, List.getElem?_cons_succ] at pn0 pn1
 have pd0 := xd.cell 0
 have pd1 := xd.cell 1
 have fd0 := xd.free 0
 have fd1 := xd.free 1
 simp only [List.getElem?_toArray, List.getElem?_cons_zero, List.getElem?_cons_succ] at pd0 pd1
 refine rz 22 fun K hK => ?_
 go_simp
 refine hK.out _ _ (⟨⟨cell_store hR4.1.1 (by omega), cell_store hR4.1.2.1 (by omega), cell_store hR4.1.2.2.1 (by omega), cell_store hR4.1.2.2.2 (by omega)⟩, ⟨cell_store hR4.2.1 (by omega), cell_store hR4.2.2.1 (by omega), cell_store hR4.2.2.2.1 (by omega), cell_store hR4.2.2.2.2 (by omega)⟩⟩) (fun hR5 => ?_)
 clear hK K hR4
 (try simp only [Act.put, sa, List.set])
 refine rz 23 fun K hK => ?_
 go_simp
 refine hK.out _ _ (⟨⟨cell_store hR5.1.1 (by omega), cell_store hR5.1.2.1 (by omega), cell_store hR5.1.2.2.1 (by omega), cell_store hR5.1.2.2.2 (by omega)⟩, ⟨cell_store hR5.2.1 (by omega), cell_store hR5.2.2.1 (by omega), cell_store hR5.2.2.2.1 (by omega), cell_store hR5.2.2.2.2 (by omega)⟩⟩) (fun hR6 => ?_)
 clear hK K hR5
 (try simp only [Act.put, sa, List.set])
 refine wpAnyH_done (by kernel_rfl) ?_ _
 refine NoPanic.normal ?_
 clear hR6 pn0 pn1 fn0 fn1 pd0 pd1 fd0 fd1 q0 q1; replace xd := xd.put_other (w.heap.size + 1 + 1) 0 (.bool btc) (by omega); replace xn := xn.put 0 (.bool btc); replace tc := tc.set1 (p := ⟨w.heap.size + 1 + 1, 0, none⟩) (by show _ + 1 < _; omega) (.bool btc); replace td := td.set1 (p := ⟨w.heap.size + 1 + 1, 0, none⟩) (by show _ + 1 < _; omega) (.bool btc); replace hB := hB.setCell (p := ⟨w.heap.size + 1 + 1, 0, none⟩) (by show _ ≤ _ + 1; omega) (.bool btc); replace xd := xd.put_other (w.heap.size + 1 + 1) 1 (.slice atc ktc ctc) (by omega); replace xn := xn.put 1 (.slice atc ktc ctc); replace tc := tc.set1 (p := ⟨w.heap.size + 1 + 1, 1, none⟩) (by show _ + 1 < _; omega) (.slice atc ktc ctc); replace td := td.set1 (p := ⟨w.heap.size + 1 + 1, 1, none⟩) (by show _ + 1 < _; omega) (.slice atc ktc ctc); replace hB := hB.setCell (p := ⟨w.heap.size + 1 + 1, 1, none⟩) (by show _ ≤ _ + 1; omega) (.slice atc ktc ctc); replace xn := xn.put_other (w.heap.size + 1 + 1 + 1) 0 (.bool btd) (by omega); replace xd := xd.put 0 (.bool btd); replace tc := tc.set1 (p := ⟨w.heap.size + 1 + 1 + 1, 0, none⟩) (by show _ + 1 < _; omega) (.bool btd); replace td := td.set1 (p := ⟨w.heap.size + 1 + 1 + 1, 0, none⟩) (by show _ + 1 < _; omega) (.bool btd); replace hB := hB.setCell (p := ⟨w.heap.size + 1 + 1 + 1, 0, none⟩) (by show _ ≤ _ + 1; omega) (.bool btd); replace xn := xn.put_other (w.heap.size + 1 + 1 + 1) 1 (.slice atd ktd ctd) (by omega); replace xd := xd.put 1 (.slice atd ktd ctd); replace tc := tc.set1 (p := ⟨w.heap.size + 1 + 1 + 1, 1, none⟩) (by show _ + 1 < _; omega) (.slice atd ktd ctd); replace td := td.set1 (p := ⟨w.heap.size + 1 + 1 + 1, 1, none⟩) (by show _ + 1 < _; omega) (.slice atd ktd ctd); replace hB := hB.setCell (p := ⟨w.heap.size + 1 + 1 + 1, 1, none⟩) (by show _ ≤ _ + 1; omega) (.slice atd ktd ctd)
 replace xn : Bk _ _ #[.bool btc, .slice atc ktc ctc] _ := xn
 replace xd : Bk _ _ #[.bool btd, .slice atd ktd ctd] _ := xd
 generalize ((((w4.setCell ⟨w.heap.size + 1 + 1, 0, none⟩ (.bool btc)).setCell ⟨w.heap.size + 1 + 1, 1, none⟩ (.slice atc ktc ctc)).setCell ⟨w.heap.size + 1 + 1 + 1, 0, none⟩ (.bool btd)).setCell ⟨w.heap.size + 1 + 1 + 1, 1, none⟩ (.slice atd ktd ctd)) = WF at *
 have pn0 := xn.cell 0
 have pn1 := xn.cell 1
 have pd0 := xd.cell 0
 have pd1 := xd.cell 1
 simp only [List.getElem?_toArray, List.getElem?_cons_zero, List.getElem?_cons_succ] at pn0 pn1 pd0 pd1
 go_wp2
 exact bodyPost_ret (v := .tuple #[.agg #[.bool btc, .slice atc ktc ctc], .agg #[.bool btd, .slice atd ktd ctd]]) (by simp [results, Tryz.results126, go_sem, pn0, pn1, pd0, pd1]) rfl ⟨⟨_, _, rfl, tc.mono (by omega), td.mono (by omega)⟩, hB⟩
theorem frproduct_any (p q : Rat) (bx : Bool) (ax : Option Addr) (kx cx : Nat) (dx : Bool) (ex : Option Addr) (lx mx : Nat) (bY : Bool) (ay : Option Addr) (ky cy : Nat) (dy : Bool) (ey : Option Addr) (ly my : Nat) (hp : Fz 256 256 p) (hq : Fz 256 256 q) (w : World)
  (fx : Fra w (.agg #[.bool bx, .slice ax kx cx, .bool dx, .slice ex lx mx]) p) (fy : Fra w (.agg #[.bool bY, .slice ay ky cy, .bool dy, .slice ey ly my]) q) :
  Calls Tryz.prog 127 #[.agg #[.bool bx, .slice ax kx cx, .bool dx, .slice ex lx mx], .agg #[.bool bY, .slice ay ky cy, .bool dy, .slice ey ly my]] w fun e w' => (∃ vn vd, e = .returned (.tuple #[vn, vd]) ∧ NumF w.heap.size w' vn (p.num * q.num) ∧ NumF w.heap.size w' vd ((p.den : Int) * q.den)) ∧ Below w.heap.size w w' := by
 obtain ⟨-, -, nx, dnx⟩ := fra_nums fx
 obtain ⟨-, -, ny, dny⟩ := fra_nums fy
 obtain ⟨h1, h1d⟩ := hp
 obtain ⟨h2, h2d⟩ := hq
 clear fx fy
 have Hta := Lib.hid (fun W (hW : Below w.heap.size w W) => frtimes_any (.agg #[.bool bx, .slice ax kx cx]) (.agg #[.bool bY, .slice ay ky cy]) p.num q.num _ rfl (h1.mono (by decide)) (h2.mono (by decide)) ((Sz.mul h1 h2).mono (by decide)) W (nx.below hW (Nat.le_refl _)) (ny.below hW (Nat.le_refl _)))
 have Htd := Lib.hid (fun W (hW : Below w.heap.size w W) => frtimes_any (.agg #[.bool dx, .slice ex lx mx]) (.agg #[.bool dy, .slice ey ly my]) (p.den : Int) (q.den : Int) _ rfl (h1d.mono (by decide)) (h2d.mono (by decide)) ((Sz.mul h1d h2d).mono (by decide)) W (dnx.below hW (Nat.le_refl _)) (dny.below hW (Nat.le_refl _)))
 clear h1 h1d h2 h2d nx dnx ny dny
 have hB := ((((Below.refl w.heap.size w).alloc (Nat.le_refl _) (.cells #[.bool bx, .slice ax kx cx, .bool dx, .slice ex lx mx] 101)).alloc (by simp) (.cells #[.bool bY, .slice ay ky cy, .bool dy, .slice ey ly my] 101)).alloc (by simp <;> omega) (.cells #[.bool false, .slice none 0 0] 24)).alloc (by simp <;> omega) (.cells #[.bool false, .slice none 0 0] 24)
 have xx := (((Bk.new w #[.bool bx, .slice ax kx cx, .bool dx, .slice ex lx mx] 101).alloc (.cells #[.bool bY, .slice ay ky cy, .bool dy, .slice ey ly my] 101)).alloc (.cells #[.bool false, .slice none 0 0] 24)).alloc (.cells #[.bool false, .slice none 0 0] 24)
 have xy := ((Bk.new (w.alloc (.cells #[.bool bx, .slice ax kx cx, .bool dx, .slice ex lx mx] 101)) #[.bool bY, .slice ay ky cy, .bool dy, .slice ey ly my] 101).alloc (.cells #[.bool false, .slice none 0 0] 24)).alloc (.cells #[.bool false, .slice none 0 0] 24)
 have xn := (Bk.new ((w.alloc (.cells #[.bool bx, .slice ax kx cx, .bool dx, .slice ex lx mx] 101)).alloc (.cells #[.bool bY, .slice ay ky cy, .bool dy, .slice ey ly my] 101)) #[.bool false, .slice none 0 0] 24).alloc (.cells #[.bool false, .slice none 0 0] 24)
 have xd := Bk.new (((w.alloc (.cells #[.bool bx, .slice ax kx cx, .bool dx, .slice ex lx mx] 101)).alloc (.cells #[.bool bY, .slice ay ky cy, .bool dy, .slice ey ly my] 101)).alloc (.cells #[.bool false, .slice none 0 0] 24)) #[.bool false, .slice none 0 0] 24
 simp only [World.size_alloc] at xy xn xd
 have hsz : ((((w.alloc (.cells #[.bool bx, .slice ax kx cx, .bool dx, .slice ex lx mx] 101)).alloc (.cells #[.bool bY, .slice ay ky cy, .bool dy, .slice ey ly my] 101)).alloc (.cells #[.bool false, .slice none 0 0] 24)).alloc (.cells #[.bool false, .slice none 0 0] 24)).heap.size = w.heap.size + 1 + 1 + 1 + 1 := by simp only [World.size_alloc]
 obtain ⟨W0, hW0⟩ : ∃ W0, W0 = ((((w.alloc (.cells #[.bool bx, .slice ax kx cx, .bool dx, .slice ex lx mx] 101)).alloc (.cells #[.bool bY, .slice ay ky cy, .bool dy, .slice ey ly my] 101)).alloc (.cells #[.bool false, .slice none 0 0] 24)).alloc (.cells #[.bool false, .slice none 0 0] 24)) := ⟨_, rfl⟩
 rw [← hW0] at hB xx xy xn xd hsz
 go_enter Tryz.func127, Tryz.ntmps127
 go_wp2_with fail
 rw [← hW0]
 clear hW0
 have q0 : w.heap.size < W0.heap.size := by omega
 have q1 : w.heap.size + 1 < W0.heap.size := by omega
 have q2 : w.heap.size + 1 + 1 < W0.heap.size := by omega
 have q3 : w.heap.size + 1 + 1 + 1 < W0.heap.size := by omega
 clear hsz
 have qq2 := q2
 have qq3 := q3
 obtain ⟨x0, x1, x2, x3⟩ := xx.cells4
 obtain ⟨y0, y1, y2, y3⟩ := xy.cells4
 refine wp_region_noPanic ?_
 refine wp_region_held_drew (S := (fun w' => (w'.cell? ⟨w.heap.size, 0, none⟩ = some (.bool bx) ∧ w'.cell? ⟨w.heap.size, 1, none⟩ = some (.slice ax kx cx) ∧ w'.cell? ⟨w.heap.size, 2, none⟩ = some (.bool dx) ∧ w'.cell? ⟨w.heap.size, 3, none⟩ = some (.slice ex lx mx)) ∧ w'.cell? ⟨w.heap.size + 1, 0, none⟩ = some (.bool bY) ∧ w'.cell? ⟨w.heap.size + 1, 1, none⟩ = some (.slice ay ky cy) ∧ w'.cell? ⟨w.heap.size + 1, 2, none⟩ = some (.bool dy) ∧ w'.cell? ⟨w.heap.size + 1, 3, none⟩ = some (.slice ey ly my))) (by kernel_rfl) ⟨⟨x0, x1, x2, x3⟩, ⟨y0, y1, y2, y3⟩⟩ (fun hR0 => ?_)
 change wpAnyH _ _ _ _ _ 16 #[false, false, false, false, false, false, false, false, false, false, false, false, false, false, false, false] _ _
 clear x0 x1 x2 x3 y0 y1 y2 y3 xx xy
 refine tz 0 ?_
 (try simp only [Act.put, sa, List.set])
 refine tz 1 ?_
 (try simp only [Act.put, sa, List.set])
 refine tz 2 ?_
 (try simp only [Act.put, sa, List.set])
 refine tz 3 ?_
 (try simp only [Act.put, sa, List.set])
 refine tz 4 ?_
 (try simp only [Act.put, sa, List.set])
 refine tz 5 ?_
 (try simp only [Act.put, sa, List.set])
 refine tz 7 ?_
 (try simp only [Act.put, sa, List.set])
 refine tz 8 ?_
 (try simp only [Act.put, sa, List.set])
 refine tz 9 ?_
 (try simp only [Act.put, sa, List.set])
 refine tz 10 ?_
 (try simp only [Act.put, sa, List.set])
 refine tz 11 ?_
 (try simp only [Act.put, sa, List.set])
 refine tz 12 ?_
 (try simp only [Act.put, sa, List.set])
 refine rz 6 fun K hK => ?_
 go_simp
 go_at_call 115; have hBd := hB.drew; refine (Hta.out _ hBd).mono ?_; rintro e w1 ⟨⟨vta, rfl, ta⟩, hb⟩; obtain ⟨bta, ata, kta, cta, rfl⟩ := ta.num.opened; replace ta : NumF W0.heap.size w1 _ _ := ta; replace hb := (Below.refl W0.heap.size W0).drew.trans hb; replace xn := xn.on hb; replace xd := xd.on hb; replace hB := hB.trans (hb.mono hB.size); have hs := hb.size
 (try go_wp2_with fail)
 refine hK.out _ _ (⟨keep4 hb q0 hR0.1, keep4 hb q1 hR0.2⟩) (fun hR1 => ?_)
 clear hK K hR0
 (try simp only [Act.put, sa, List.set])
 replace q0 := Nat.lt_of_lt_of_le q0 hs; replace q1 := Nat.lt_of_lt_of_le q1 hs; replace q2 := Nat.lt_of_lt_of_le q2 hs; replace q3 := Nat.lt_of_lt_of_le q3 hs
 have zz1 := hs
 clear hb hs hBd
 refine rz 13 fun K hK => ?_
 go_simp
 go_at_call 115; have hBd := hB; refine (Htd.out _ hBd).mono ?_; rintro e w2 ⟨⟨vtd, rfl, td⟩, hb⟩; obtain ⟨btd, atd, ktd, ctd, rfl⟩ := td.num.opened; replace ta := ta.below hb; replace xn := xn.on hb; replace xd := xd.on hb; replace hB := hB.trans (hb.mono hB.size); have hs := hb.size
 (try go_wp2_with fail)
 refine hK.out _ _ (⟨keep4 hb q0 hR1.1, keep4 hb q1 hR1.2⟩) (fun hR2 => ?_)
 clear hK K hR1
 (try simp only [Act.put, sa, List.set])
 replace q0 := Nat.lt_of_lt_of_le q0 hs; replace q1 := Nat.lt_of_lt_of_le q1 hs; replace q2 := Nat.lt_of_lt_of_le q2 hs; replace q3 := Nat.lt_of_lt_of_le q3 hs
 have zz2 := Nat.le_trans zz1 hs
 clear hb hs hBd
 have pn0 := xn.cell 0
 have pn1 := xn.cell 1
 have fn0 := xn.free 0
 have fn1 := xn.free 1
 simp only [List.getElem?_toArray, List.getElem?_cons_zero, List.getElem?_cons_succ] at pn0 pn1
 have pd0 := xd.cell 0
 have pd1 := xd.cell 1
 have fd0 := xd.free 0
 have fd1 := xd.free 1
 simp only [List.getElem?_toArray, List.getElem?_cons_zero, List.getElem?_cons_succ] at pd0 pd1
 refine rz 14 fun K hK => ?_
 go_simp
 refine hK.out _ _ (⟨⟨cell_store hR2.1.1 (by omega), cell_store hR2.1.2.1 (by omega), cell_store hR2.1.2.2.1 (by omega), cell_store hR2.1.2.2.2 (by omega)⟩, ⟨cell_store hR2.2.1 (by omega), cell_store hR2.2.2.1 (by omega), cell_store hR2.2.2.2.1 (by omega), cell_store hR2.2.2.2.2 (by omega)⟩⟩) (fun hR3 => ?_)
 clear hK K hR2
 (try simp only [Act.put, sa, List.set])
 refine rz 15 fun K hK => ?_
 go_simp
 refine hK.out _ _ (⟨⟨cell_store hR3.1.1 (by omega), cell_store hR3.1.2.1 (by omega), cell_store hR3.1.2.2.1 (by omega), cell_store hR3.1.2.2.2 (by omega)⟩, ⟨cell_store hR3.2.1 (by omega), cell_store hR3.2.2.1 (by omega), cell_store hR3.2.2.2.1 (by omega), cell_store hR3.2.2.2.2 (by omega)⟩⟩) (fun hR4 => ?_)
 clear hK K hR3
 (try simp only [Act.put, sa, List.set])
 refine wpAnyH_done (by kernel_rfl) ?_ _
 refine NoPanic.normal ?_
 clear hR4 pn0 pn1 fn0 fn1 pd0 pd1 fd0 fd1 q0 q1; replace xd := xd.put_other (w.heap.size + 1 + 1) 0 (.bool bta) (by omega); replace xn := xn.put 0 (.bool bta); replace ta := ta.set1 (p := ⟨w.heap.size + 1 + 1, 0, none⟩) (by show _ + 1 < _; omega) (.bool bta); replace td := td.set1 (p := ⟨w.heap.size + 1 + 1, 0, none⟩) (by show _ + 1 < _; omega) (.bool bta); replace hB := hB.setCell (p := ⟨w.heap.size + 1 + 1, 0, none⟩) (by show _ ≤ _ + 1; omega) (.bool bta); replace xd := xd.put_other (w.heap.size + 1 + 1) 1 (.slice ata kta cta) (by omega); replace xn := xn.put 1 (.slice ata kta cta); replace ta := ta.set1 (p := ⟨w.heap.size + 1 + 1, 1, none⟩) (by show _ + 1 < _; omega) (.slice ata kta cta); replace td := td.set1 (p := ⟨w.heap.size + 1 + 1, 1, none⟩) (by show _ + 1 < _; omega) (.slice ata kta cta); replace hB := hB.setCell (p := ⟨w.heap.size + 1 + 1, 1, none⟩) (by show _ ≤ _ + 1; omega) (.slice ata kta cta); replace xn := xn.put_other (w.heap.size + 1 + 1 + 1) 0 (.bool btd) (by omega); replace xd := xd.put 0 (.bool btd); replace ta := ta.set1 (p := ⟨w.heap.size + 1 + 1 + 1, 0, none⟩) (by show _ + 1 < _; omega) (.bool btd); replace td := td.set1 (p := ⟨w.heap.size + 1 + 1 + 1, 0, none⟩) (by show _ + 1 < _; omega) (.bool btd); replace hB := hB.setCell (p := ⟨w.heap.size + 1 + 1 + 1, 0, none⟩) (by show _ ≤ _ + 1; omega) (.bool btd); replace xn := xn.put_other (w.heap.size + 1 + 1 + 1) 1 (.slice atd ktd ctd) (by omega); replace xd := xd.put 1 (.slice atd ktd ctd); replace ta := ta.set1 (p := ⟨w.heap.size + 1 + 1 + 1, 1, none⟩) (by show _ + 1 < _; omega) (.slice atd ktd ctd); replace td := td.set1 (p := ⟨w.heap.size + 1 + 1 + 1, 1, none⟩) (by show _ + 1 < _; omega) (.slice atd ktd ctd); replace hB := hB.setCell (p := ⟨w.heap.size + 1 + 1 + 1, 1, none⟩) (by show _ ≤ _ + 1; omega) (.slice atd ktd ctd)
 replace xn : Bk _ _ #[.bool bta, .slice ata kta cta] _ := xn
 replace xd : Bk _ _ #[.bool btd, .slice atd ktd ctd] _ := xd
 generalize ((((w2.setCell ⟨w.heap.size + 1 + 1, 0, none⟩ (.bool bta)).setCell ⟨w.heap.size + 1 + 1, 1, none⟩ (.slice ata kta cta)).setCell ⟨w.heap.size + 1 + 1 + 1, 0, none⟩ (.bool btd)).setCell ⟨w.heap.size + 1 + 1 + 1, 1, none⟩ (.slice atd ktd ctd)) = WF at *
 have pn0 := xn.cell 0
 have pn1 := xn.cell 1
 have pd0 := xd.cell 0
 have pd1 := xd.cell 1
 simp only [List.getElem?_toArray, List.getElem?_cons_zero, List.getElem?_cons_succ] at pn0 pn1 pd0 pd1
 go_wp2
 exact bodyPost_ret (v := .tuple #[.agg #[.bool bta, .slice ata kta cta], .agg #[.bool btd, .slice atd ktd ctd]]) (by simp [results, Tryz.results127, go_sem, pn0, pn1, pd0, pd1]) rfl ⟨⟨_, _, rfl, ta.mono (by omega), td.mono (by omega)⟩, hB⟩
theorem frquotient_any (p q : Rat) (bx : Bool) (ax : Option Addr) (kx cx : Nat) (dx : Bool) (ex : Option Addr) (lx mx : Nat) (bY : Bool) (ay : Option Addr) (ky cy : Nat) (dy : Bool) (ey : Option Addr) (ly my : Nat) (hp : Fz 256 256 p) (hq : Fz 256 256 q) (w : World)
  (fx : Fra w (.agg #[.bool bx, .slice ax kx cx, .bool dx, .slice ex lx mx]) p) (fy : Fra w (.agg #[.bool bY, .slice ay ky cy, .bool dy, .slice ey ly my]) q) :
  Calls Tryz.prog 153 #[.agg #[.bool bx, .slice ax kx cx, .bool dx, .slice ex lx mx], .agg #[.bool bY, .slice ay ky cy, .bool dy, .slice ey ly my]] w fun e w' => (∃ vn vd, e = .returned (.tuple #[vn, vd]) ∧ NumF w.heap.size w' vn (p.num * q.den) ∧ NumF w.heap.size w' vd ((p.den : Int) * q.num)) ∧ Below w.heap.size w w' := by
 obtain ⟨-, -, nx, dnx⟩ := fra_nums fx
 obtain ⟨-, -, ny, dny⟩ := fra_nums fy
 obtain ⟨h1, h1d⟩ := hp
 obtain ⟨h2, h2d⟩ := hq
 clear fx fy
 have Hta := Lib.hid (fun W (hW : Below w.heap.size w W) => frtimes_any (.agg #[.bool bx, .slice ax kx cx]) (.agg #[.bool dy, .slice ey ly my]) p.num (q.den : Int) _ rfl (h1.mono (by decide)) (h2d.mono (by decide)) ((Sz.mul h1 h2d).mono (by decide)) W (nx.below hW (Nat.le_refl _)) (dny.below hW (Nat.le_refl _)))
 have Htd := Lib.hid (fun W (hW : Below w.heap.size w W) => frtimes_any (.agg #[.bool dx, .slice ex lx mx]) (.agg #[.bool bY, .slice ay ky cy]) (p.den : Int) q.num _ rfl (h1d.mono (by decide)) (h2.mono (by decide)) ((Sz.mul h1d h2).mono (by decide)) W (dnx.below hW (Nat.le_refl _)) (ny.below hW (Nat.le_refl _)))
 clear h1 h1d h2 h2d nx dnx ny dny
 have hB := ((((Below.refl w.heap.size w).alloc (Nat.le_refl _) (.cells #[.bool bx, .slice ax kx cx, .bool dx, .slice ex lx mx] 101)).alloc (by simp) (.cells #[.bool bY, .slice ay ky cy, .bool dy, .slice ey ly my] 101)).alloc (by simp <;> omega) (.cells #[.bool false, .slice none 0 0] 24)).alloc (by simp <;> omega) (.cells #[.bool false, .slice none 0 0] 24)
 have xx := (((Bk.new w #[.bool bx, .slice ax kx cx, .bool dx, .slice ex lx mx] 101).alloc (.cells #[.bool bY, .slice ay ky cy, .bool dy, .slice ey ly my] 101)).alloc (.cells #[.bool false, .slice none 0 0] 24)).alloc (.cells #[.bool false, .slice none 0 0] 24)
 have xy := ((Bk.new (w.alloc (.cells #[.bool bx, .slice ax kx cx, .bool dx, .slice ex lx mx] 101)) #[.bool bY, .slice ay ky cy, .bool dy, .slice ey ly my] 101).alloc (.cells #[.bool false, .slice none 0 0] 24)).alloc (.cells #[.bool false, .slice none 0 0] 24)
 have xn := (Bk.new ((w.alloc (.cells #[.bool bx, .slice ax kx cx, .bool dx, .slice ex lx mx] 101)).alloc (.cells #[.bool bY, .slice ay ky cy, .bool dy, .slice ey ly my] 101)) #[.bool false, .slice none 0 0] 24).alloc (.cells #[.bool false, .slice none 0 0] 24)
 have xd := Bk.new (((w.alloc (.cells #[.bool bx, .slice ax kx cx, .bool dx, .slice ex lx mx] 101)).alloc (.cells #[.bool bY, .slice ay ky cy, .bool dy, .slice ey ly my] 101)).alloc (.cells #[.bool false, .slice none 0 0] 24)) #[.bool false, .slice none 0 0] 24
 simp only [World.size_alloc] at xy xn xd
 have hsz : ((((w.alloc (.cells #[.bool bx, .slice ax kx cx, .bool dx, .slice ex lx mx] 101)).alloc (.cells #[.bool bY, .slice ay ky cy, .bool dy, .slice ey ly my] 101)).alloc (.cells #[.bool false, .slice none 0 0] 24)).alloc (.cells #[.bool false, .slice none 0 0] 24)).heap.size = w.heap.size + 1 + 1 + 1 + 1 := by simp only [World.size_alloc]
 obtain ⟨W0, hW0⟩ : ∃ W0, W0 = ((((w.alloc (.cells #[.bool bx, .slice ax kx cx, .bool dx, .slice ex lx mx] 101)).alloc (.cells #[.bool bY, .slice ay ky cy, .bool dy, .slice ey ly my] 101)).alloc (.cells #[.bool false, .slice none 0 0] 24)).alloc (.cells #[.bool false, .slice none 0 0] 24)) := ⟨_, rfl⟩
 rw [← hW0] at hB xx xy xn xd hsz
 go_enter Tryz.func153, Tryz.ntmps153
 go_wp2_with fail
 rw [← hW0]
 clear hW0
 have q0 : w.heap.size < W0.heap.size := by omega
 have q1 : w.heap.size + 1 < W0.heap.size := by omega
 have q2 : w.heap.size + 1 + 1 < W0.heap.size := by omega
 have q3 : w.heap.size + 1 + 1 + 1 < W0.heap.size := by omega
 clear hsz
 have qq2 := q2
 have qq3 := q3
 obtain ⟨x0, x1, x2, x3⟩ := xx.cells4
 obtain ⟨y0, y1, y2, y3⟩ := xy.cells4
 refine wp_region_noPanic ?_
 refine wp_region_held_drew (S := (fun w' => (w'.cell? ⟨w.heap.size, 0, none⟩ = some (.bool bx) ∧ w'.cell? ⟨w.heap.size, 1, none⟩ = some (.slice ax kx cx) ∧ w'.cell? ⟨w.heap.size, 2, none⟩ = some (.bool dx) ∧ w'.cell? ⟨w.heap.size, 3, none⟩ = some (.slice ex lx mx)) ∧ w'.cell? ⟨w.heap.size + 1, 0, none⟩ = some (.bool bY) ∧ w'.cell? ⟨w.heap.size + 1, 1, none⟩ = some (.slice ay ky cy) ∧ w'.cell? ⟨w.heap.size + 1, 2, none⟩ = some (.bool dy) ∧ w'.cell? ⟨w.heap.size + 1, 3, none⟩ = some (.slice ey ly my))) (by kernel_rfl) ⟨⟨x0, x1, x2, x3⟩, ⟨y0, y1, y2, y3⟩⟩ (fun hR0 => ?_)
 change wpAnyH _ _ _ _ _ 16 #[false, false, false, false, false, false, false, false, false, false, false, false, false, false, false, false] _ _
 clear x0 x1 x2 x3 y0 y1 y2 y3 xx xy
 refine tz 0 ?_
 (try simp only [Act.put, sa, List.set])
 refine tz 1 ?_
 (try simp only [Act.put, sa, List.set])
 refine tz 2 ?_
 (try simp only [Act.put, sa, List.set])
 refine tz 3 ?_
 (try simp only [Act.put, sa, List.set])
 refine tz 4 ?_
 (try simp only [Act.put, sa, List.set])
 refine tz 5 ?_
 (try simp only [Act.put, sa, List.set])
 refine tz 7 ?_
 (try simp only [Act.put, sa, List.set])
 refine tz 8 ?_
 (try simp only [Act.put, sa, List.set])
 refine tz 9 ?_
 (try simp only [Act.put, sa, List.set])
 refine tz 10 ?_
 (try simp only [Act.put, sa, List.set])
 refine tz 11 ?_
 (try simp only [Act.put, sa, List.set])
 refine tz 12 ?_
 (try simp only [Act.put, sa, List.set])
 refine rz 6 fun K hK => ?_
 go_simp
 go_at_call 115; have hBd := hB.drew; refine (Hta.out _ hBd).mono ?_; rintro e w1 ⟨⟨vta, rfl, ta⟩, hb⟩; obtain ⟨bta, ata, kta, cta, rfl⟩ := ta.num.opened; replace ta : NumF W0.heap.size w1 _ _ := ta; replace hb := (Below.refl W0.heap.size W0).drew.trans hb; replace xn := xn.on hb; replace xd := xd.on hb; replace hB := hB.trans (hb.mono hB.size); have hs := hb.size
 (try go_wp2_with fail)
 refine hK.out _ _ (⟨keep4 hb q0 hR0.1, keep4 hb q1 hR0.2⟩) (fun hR1 => ?_)
 clear hK K hR0
 (try simp only [Act.put, sa, List.set])
 replace q0 := Nat.lt_of_lt_of_le q0 hs; replace q1 := Nat.lt_of_lt_of_le q1 hs; replace q2 := Nat.lt_of_lt_of_le q2 hs; replace q3 := Nat.lt_of_lt_of_le q3 hs
 have zz1 := hs
 clear hb hs hBd
 refine rz 13 fun K hK => ?_
 go_simp
 go_at_call 115; have hBd := hB; refine (Htd.out _ hBd).mono ?_; rintro e w2 ⟨⟨vtd, rfl, td⟩, hb⟩; obtain ⟨btd, atd, ktd, ctd, rfl⟩ := td.num.opened; replace ta := ta.below hb; replace xn := xn.on hb; replace xd := xd.on hb; replace hB := hB.trans (hb.mono hB.size); have hs := hb.size
 (try go_wp2_with fail)
 refine hK.out _ _ (⟨keep4 hb q0 hR1.1, keep4 hb q1 hR1.2⟩) (fun hR2 => ?_)
 clear hK K hR1
 (try simp only [Act.put, sa, List.set])
 replace q0 := Nat.lt_of_lt_of_le q0 hs; replace q1 := Nat.lt_of_lt_of_le q1 hs; replace q2 := Nat.lt_of_lt_of_le q2 hs; replace q3 := Nat.lt_of_lt_of_le q3 hs
 have zz2 := Nat.le_trans zz1 hs
 clear hb hs hBd
 have pn0 := xn.cell 0
 have pn1 := xn.cell 1
 have fn0 := xn.free 0
 have fn1 := xn.free 1
 simp only [List.getElem?_toArray, List.getElem?_cons_zero, List.getElem?_cons_succ] at pn0 pn1
 have pd0 := xd.cell 0
 have pd1 := xd.cell 1
 have fd0 := xd.free 0
 have fd1 := xd.free 1
 simp only [List.getElem?_toArray, List.getElem?_cons_zero, List.getElem?_cons_succ] at pd0 pd1
 refine rz 14 fun K hK => ?_
 go_simp
 refine hK.out _ _ (⟨⟨cell_store hR2.1.1 (by omega), cell_store hR2.1.2.1 (by omega), cell_store hR2.1.2.2.1 (by omega), cell_store hR2.1.2.2.2 (by omega)⟩, ⟨cell_store hR2.2.1 (by omega), cell_store hR2.2.2.1 (by omega), cell_store hR2.2.2.2.1 (by omega), cell_store hR2.2.2.2.2 (by omega)⟩⟩) (fun hR3 => ?_)
 clear hK K hR2
 (try simp only [Act.put, sa, List.set])
 refine rz 15 fun K hK => ?_
 go_simp
 refine hK.out _ _ (⟨⟨cell_store hR3.1.1 (by omega), cell_store hR3.1.2.1 (by omega), cell_store hR3.1.2.2.1 (by omega), cell_store hR3.1.2.2.2 (by omega)⟩, ⟨cell_store hR3.2.1 (by omega), cell_store hR3.2.2.1 (by omega), cell_store hR3.2.2.2.1 (by omega), cell_store hR3.2.2.2.2 (by omega)⟩⟩) (fun hR4 => ?_)
 clear hK K hR3
 (try simp only [Act.put, sa, List.set])
 refine wpAnyH_done (by kernel_rfl) ?_ _
 refine NoPanic.normal ?_
 clear hR4 pn0 pn1 fn0 fn1 pd0 pd1 fd0 fd1 q0 q1; replace xd := xd.put_other (w.heap.size + 1 + 1) 0 (.bool bta) (by omega); replace xn := xn.put 0 (.bool bta); replace ta := ta.set1 (p := ⟨w.heap.size + 1 + 1, 0, none⟩) (by show _ + 1 < _; omega) (.bool bta); replace td := td.set1 (p := ⟨w.heap.size + 1 + 1, 0, none⟩) (by show _ + 1 < _; omega) (.bool bta); replace hB := hB.setCell (p := ⟨w.heap.size + 1 + 1, 0, none⟩) (by show _ ≤ _ + 1; omega) (.bool bta); replace xd := xd.put_other (w.heap.size + 1 + 1) 1 (.slice ata kta cta) (by omega); replace xn := xn.put 1 (.slice ata kta cta); replace ta := ta.set1 (p := ⟨w.heap.size + 1 + 1, 1, none⟩) (by show _ + 1 < _; omega) (.slice ata kta cta); replace td := td.set1 (p := ⟨w.heap.size + 1 + 1, 1, none⟩) (by show _ + 1 < _; omega) (.slice ata kta cta); replace hB := hB.setCell (p := ⟨w.heap.size + 1 + 1, 1, none⟩) (by show _ ≤ _ + 1; omega) (.slice ata kta cta); replace xn := xn.put_other (w.heap.size + 1 + 1 + 1) 0 (.bool btd) (by omega); replace xd := xd.put 0 (.bool btd); replace ta := ta.set1 (p := ⟨w.heap.size + 1 + 1 + 1, 0, none⟩) (by show _ + 1 < _; omega) (.bool btd); replace td := td.set1 (p := ⟨w.heap.size + 1 + 1 + 1, 0, none⟩) (by show _ + 1 < _; omega) (.bool btd); replace hB := hB.setCell (p := ⟨w.heap.size + 1 + 1 + 1, 0, none⟩) (by show _ ≤ _ + 1; omega) (.bool btd); replace xn := xn.put_other (w.heap.size + 1 + 1 + 1) 1 (.slice atd ktd ctd) (by omega); replace xd := xd.put 1 (.slice atd ktd ctd); replace ta := ta.set1 (p := ⟨w.heap.size + 1 + 1 + 1, 1, none⟩) (by show _ + 1 < _; omega) (.slice atd ktd ctd); replace td := td.set1 (p := ⟨w.heap.size + 1 + 1 + 1, 1, none⟩) (by show _ + 1 < _; omega) (.slice atd ktd ctd); replace hB := hB.setCell (p := ⟨w.heap.size + 1 + 1 + 1, 1, none⟩) (by show _ ≤ _ + 1; omega) (.slice atd ktd ctd)
 replace xn : Bk _ _ #[.bool bta, .slice ata kta cta] _ := xn
 replace xd : Bk _ _ #[.bool btd, .slice atd ktd ctd] _ := xd
 generalize ((((w2.setCell ⟨w.heap.size + 1 + 1, 0, none⟩ (.bool bta)).setCell ⟨w.heap.size + 1 + 1, 1, none⟩ (.slice ata kta cta)).setCell ⟨w.heap.size + 1 + 1 + 1, 0, none⟩ (.bool btd)).setCell ⟨w.heap.size + 1 + 1 + 1, 1, none⟩ (.slice atd ktd ctd)) = WF at *
 have pn0 := xn.cell 0
 have pn1 := xn.cell 1
 have pd0 := xd.cell 0
 have pd1 := xd.cell 1
 simp only [List.getElem?_toArray, List.getElem?_cons_zero, List.getElem?_cons_succ] at pn0 pn1 pd0 pd1
 go_wp2
 exact bodyPost_ret (v := .tuple #[.agg #[.bool bta, .slice ata kta cta], .agg #[.bool btd, .slice atd ktd ctd]]) (by simp [results, Tryz.results153, go_sem, pn0, pn1, pd0, pd1]) rfl ⟨⟨_, _, rfl, ta.mono (by omega), td.mono (by omega)⟩, hB⟩
end Go.Proofs.YtmbcnfogjncdaaaGreat
namespace Go.Proofs.YtmbcnfogjncdaaaGreat
open Go.RowKit Wh
theorem Make_long (bn : Bool) (an : Option Addr) (kn cn : Nat) (bd : Bool) (ad : Option Addr) (kd cd : Nat) (n d : Int) (hn : Sz 1024 n) (hd : Sz 1024 d) (hd0 : d ≠ 0) (h : ¬ Fz 256 256 (Rat.divInt n d)) (w : World) (nn : Num w (.agg #[.bool bn, .slice an kn cn]) n) (nd : Num w (.agg #[.bool bd, .slice ad kd cd]) d) :
  Calls Tryz.prog 24 #[.agg #[.bool bn, .slice an kn cn], .agg #[.bool bd, .slice ad kd cd]] w fun e w' => e = .returned (.tuple #[zeroF, .int .i64 3]) ∧ Below w.heap.size w w' := by
 by_cases h1 : Sz 256 (Rat.divInt n d).num
 · exact Make_d bn an kn cn bd ad kd cd n d hn hd hd0 h1 (fun h2 => h ⟨h1, h2⟩) w nn nd
 · exact Make_n bn an kn cn bd ad kd cd n d hn hd hd0 h1 w nn nd
theorem Make_okk (bn : Bool) (an : Option Addr) (kn cn : Nat) (bd : Bool) (ad : Option Addr) (kd cd : Nat) (n d : Int) (q : Rat) (hq : Rat.divInt n d = q) (hn : Sz 1024 n) (hd : Sz 1024 d) (hd0 : d ≠ 0) (h : Fz 256 256 q) (w : World) (nn : Num w (.agg #[.bool bn, .slice an kn cn]) n) (nd : Num w (.agg #[.bool bd, .slice ad kd cd]) d) :
  Calls Tryz.prog 24 #[.agg #[.bool bn, .slice an kn cn], .agg #[.bool bd, .slice ad kd cd]] w fun e w' => (∃ v, e = .returned (.tuple #[v, .int .i64 0]) ∧ FraF w.heap.size w' v q) ∧ Below w.heap.size w w' := by
 subst hq
 exact Make_ok bn an kn cn bd ad kd cd n d hn hd hd0 h.1 h.2 w nn nd
theorem frpair_new (W0 : World) (X Y : Array Value) (T : TypeId) : Bk ((W0.alloc (.cells X T)).alloc (.cells Y T)).drew W0.heap.size X T ∧ Bk ((W0.alloc (.cells X T)).alloc (.cells Y T)).drew (W0.heap.size + 1) Y T ∧ Below W0.heap.size W0 ((W0.alloc (.cells X T)).alloc (.cells Y T)).drew := by
 have h1 := (Bk.new W0 X T).alloc (.cells Y T)
 have h2 := Bk.new (W0.alloc (.cells X T)) Y T
 simp only [World.size_alloc] at h2
 exact ⟨h1, h2, (((Below.refl W0.heap.size W0).alloc (Nat.le_refl _) _).alloc (by simp) _).drew⟩
end Go.Proofs.YtmbcnfogjncdaaaGreat
namespace Go.Proofs.YtmbcnfogjncdaaaGreat
open Go.RowKit Wh
theorem cell_store4 {W : World} {B B' : Nat} {o : Nat} {x v0 v1 v2 v3 : Value} (h : W.cell? ⟨B, o, none⟩ = some x) (hne : B' ≠ B) : ((((W.setCell ⟨B', 0, none⟩ v0).setCell ⟨B', 1, none⟩ v1).setCell ⟨B', 2, none⟩ v2).setCell ⟨B', 3, none⟩ v3).cell? ⟨B, o, none⟩ = some x := by
 rw [← h]
 have e : ((((W.setCell ⟨B', 0, none⟩ v0).setCell ⟨B', 1, none⟩ v1).setCell ⟨B', 2, none⟩ v2).setCell ⟨B', 3, none⟩ v3).heap[B]? = W.heap[B]? :=
  (heap_setCell_other _ ⟨B', 3, none⟩ B v3 (Ne.symm hne)).trans ((heap_setCell_other _ ⟨B', 2, none⟩ B v2 (Ne.symm hne)).trans ((heap_setCell_other _ ⟨B', 1, none⟩ B v1 (Ne.symm hne)).trans (heap_setCell_other _ ⟨B', 0, none⟩ B v0 (Ne.symm hne))))
 unfold World.cell?
 simp only [e]
theorem frValid_raw (b : Bool) (a : Option Addr) (k c : Nat) (l : List Nat) (b' : Bool) (a' : Option Addr) (k' c' : Nat) (l' : List Nat) (w : World) (h : Lim w (.slice a k c) l) (hm : Lm l) (h' : Lim w (.slice a' k' c') l') (hm' : Lm l') :
  Calls Tryz.prog 90 #[.agg #[.bool b, .slice a k c, .bool b', .slice a' k' c']] w fun e w' => e = .returned (.bool (fvld b l b' l')) ∧ Below w.heap.size w w' := by
 have HV := Lib.hid (fun W (hW : Below w.heap.size w W) => valid_raw b a k c l b' a' k' c' l' W (h.below hW (Nat.le_refl _)) hm (h'.below hW (Nat.le_refl _)) hm')
 clear h hm h' hm'
 have hB := Below.refl w.heap.size w
 obtain ⟨al, xa, hN⟩ := mk hB #[.bool b, .slice a k c, .bool b', .slice a' k' c'] 39
 replace hB := hN; clear al hN
 try simp only [World.size_alloc] at xa
 go_enter Tryz.func90, Tryz.ntmps90
 go_wp2_with fail
 refine (HV.out _ hB).mono ?_
 rintro e w1 ⟨rfl, hb⟩
 replace xa := xa.on hb
 have hz1 := hb.size
 try simp at hz1
 replace hB := hB.trans (hb.mono hB.size); clear hb
 have HB := Lib.hid hB
 clear hB xa
 go_wp2
 go_ret
 exact ⟨rfl, HB.out⟩
end Go.Proofs.YtmbcnfogjncdaaaGreat
