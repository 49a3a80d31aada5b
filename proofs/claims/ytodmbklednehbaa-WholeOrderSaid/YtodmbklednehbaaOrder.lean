/-
'WholeOrder'.
-/
import Derived.Test.YtodmbklednehbaaSz
import Derived.Test.YtodmbklednehbaaSame
import Derived.Outline
namespace Go.Proofs.Ytodmbklednehbaa
open Go.RowKit Wh

theorem Same_lit (va vb : Value) (a b : Int) (r : Bool) (hr : decide (a = b) = r) (w : World) (h : Num w va a) (g : Num w vb b) :
    Calls Try.prog 35 #[va, vb] w fun e w' => e = .returned (.bool r) ∧ Below w.heap.size w w' := by
  have := Same_num va vb a b w h g
  rwa [hr] at this

set_option maxRecDepth 100000 in
set_option maxHeartbeats 64000000 in
theorem WholeOrder_less (a b c : Int) (sa : Sz 200 a) (sb : Sz 200 b) (sc : Sz 200 c) (bia : Bool) (aia : Option Addr) (kia cia : Nat) (bib : Bool) (aib : Option Addr) (kib cib : Nat) (bic : Bool) (aic : Option Addr) (kic cic : Nat) (hab : a < b) (w : World) (ia : Num w (.agg #[.bool bia, .slice aia kia cia]) a) (ib : Num w (.agg #[.bool bib, .slice aib kib cib]) b) (ic : Num w (.agg #[.bool bic, .slice aic kic cic]) c) :
    Calls Try.prog 7 #[.agg #[.bool bia, .slice aia kia cia], .agg #[.bool bib, .slice aib kib cib], .agg #[.bool bic, .slice aic kic cic]] w fun e w' => e = .returned (.bool true) ∧ Below w.heap.size w w' := by
  have HK0 := Lib.hid (fun vx vy W (h : Num W vx (a)) (g : Num W vy (b)) => Cmp_lit vx vy (a) (b) (-1) ((by unfold cmpI; split <;> (try split) <;> omega)) (Sz.len sa (by decide)) (Sz.len sb (by decide)) W h g)
  have HK1 := Lib.hid (fun vx vy W (h : Num W vx (b)) (g : Num W vy (a)) => Cmp_lit vx vy (b) (a) (1) ((by unfold cmpI; split <;> (try split) <;> omega)) (Sz.len sb (by decide)) (Sz.len sa (by decide)) W h g)
  have HK2 := Lib.hid (fun vx vy W (h : Num W vx (a)) (g : Num W vy (b)) => Same_lit vx vy (a) (b) false (by simp; omega) W h g)
  have HK3 := Lib.hid (fun vx vy W (h : Num W vx (a)) (g : Num W vy (b)) => law_less_any vx vy (a) (b) (a - b) (rfl) (Sz.len sa (by decide)) (Sz.len sb (by decide)) (Sz.len (Sz.sub sa sb) (by decide)) W h g)
  have HK4 := Lib.hid (fun W => num_any (0) (by decide) (by decide) W)
  have HK5 := Lib.hid (fun vx vy W (h : Num W vx (a - b)) (g : Num W vy (0)) => Cmp_lit vx vy (a - b) (0) (-1) ((by unfold cmpI; split <;> (try split) <;> omega)) (Sz.len (Sz.sub sa sb) (by decide)) (Sz.len (Sz.small (z := 0) (by decide)) (by decide)) W h g)
  have HK6 := Lib.hid (fun vx vy W (h : Num W vx (a)) (g : Num W vy (c)) => law_sum_any vx vy (a) (c) (a + c) (rfl) (Sz.len sa (by decide)) (Sz.len sc (by decide)) (Sz.len (Sz.add sa sc) (by decide)) W h g)
  have HK7 := Lib.hid (fun vx vy W (h : Num W vx (b)) (g : Num W vy (c)) => law_sum_any vx vy (b) (c) (b + c) (rfl) (Sz.len sb (by decide)) (Sz.len sc (by decide)) (Sz.len (Sz.add sb sc) (by decide)) W h g)
  have HK8 := Lib.hid (fun vx vy W (h : Num W vx (a + c)) (g : Num W vy (b + c)) => Cmp_lit vx vy (a + c) (b + c) (-1) ((by unfold cmpI; split <;> (try split) <;> omega)) (Sz.len (Sz.add sa sc) (by decide)) (Sz.len (Sz.add sb sc) (by decide)) W h g)
  have HK9 := Lib.hid (fun W => num_any (-1) (by decide) (by decide) W)
  have HK10 := Lib.hid (fun vx vy W (h : Num W vx (a)) (g : Num W vy (-1)) => law_product_any vx vy (a) (-1) (a * (-1)) (rfl) (Sz.len sa (by decide)) (Sz.len (Sz.small (z := -1) (by decide)) (by decide)) (Sz.len (Sz.mul sa (Sz.small (z := -1) (by decide))) (by decide)) W h g)
  have HK11 := Lib.hid (fun vx vy W (h : Num W vx (b)) (g : Num W vy (-1)) => law_product_any vx vy (b) (-1) (b * (-1)) (rfl) (Sz.len sb (by decide)) (Sz.len (Sz.small (z := -1) (by decide)) (by decide)) (Sz.len (Sz.mul sb (Sz.small (z := -1) (by decide))) (by decide)) W h g)
  have HK12 := Lib.hid (fun vx vy W (h : Num W vx (a * (-1))) (g : Num W vy (b * (-1))) => Cmp_lit vx vy (a * (-1)) (b * (-1)) (1) ((by unfold cmpI; split <;> (try split) <;> omega)) (Sz.len (Sz.mul sa (Sz.small (z := -1) (by decide))) (by decide)) (Sz.len (Sz.mul sb (Sz.small (z := -1) (by decide))) (by decide)) W h g)
  have HAB := Lib.hid hab
  clear hab
  have hB := ((((Below.refl w.heap.size w).alloc (by simp <;> omega) (.cells #[.bool bia, .slice aia kia cia] 26)).alloc (by simp <;> omega) (.cells #[.bool bib, .slice aib kib cib] 26)).alloc (by simp <;> omega) (.cells #[.bool bic, .slice aic kic cic] 26))
  have xia := (((Bx.new w (.bool bia) (.slice aia kia cia)).alloc (.cells #[.bool bib, .slice aib kib cib] 26)).alloc (.cells #[.bool bic, .slice aic kic cic] 26))
  have xib := ((Bx.new (w.alloc (.cells #[.bool bia, .slice aia kia cia] 26)) (.bool bib) (.slice aib kib cib)).alloc (.cells #[.bool bic, .slice aic kic cic] 26))
  simp only [World.size_alloc] at xib
  have xic := (Bx.new ((w.alloc (.cells #[.bool bia, .slice aia kia cia] 26)).alloc (.cells #[.bool bib, .slice aib kib cib] 26)) (.bool bic) (.slice aic kic cic))
  simp only [World.size_alloc] at xic
  replace ia := ia.below hB (Nat.le_refl _)
  replace ib := ib.below hB (Nat.le_refl _)
  replace ic := ic.below hB (Nat.le_refl _)
  go_enter Try.func7, Try.ntmps7
  go_wp2_with fail
  refine (awake_any _).mono ?_
  rintro e v1 ⟨rfl, hb⟩
  replace ia := ia.below hb (Nat.le_refl _)
  replace xia := xia.on hb
  obtain ⟨pia, pia'⟩ := xia.cells
  replace ib := ib.below hb (Nat.le_refl _)
  replace xib := xib.on hb
  obtain ⟨pib, pib'⟩ := xib.cells
  replace ic := ic.below hb (Nat.le_refl _)
  replace xic := xic.on hb
  obtain ⟨pic, pic'⟩ := xic.cells
  replace hB := hB.trans (hb.mono hB.size)
  clear hb
  go_wp2_with fail
  have al := (Below.refl v1.heap.size v1).alloc (Nat.le_refl _) (.cells #[.bool bia, .slice aia kia cia, .bool bib, .slice aib kib cib, .bool bic, .slice aic kic cic] 26)
  replace ia := ia.below al (Nat.le_refl _)
  replace xia := xia.on al
  replace ib := ib.below al (Nat.le_refl _)
  replace xib := xib.on al
  replace ic := ic.below al (Nat.le_refl _)
  replace xic := xic.on al
  replace hB := hB.alloc hB.size (.cells #[.bool bia, .slice aia kia cia, .bool bib, .slice aib kib cib, .bool bic, .slice aic kic cic] 26)
  clear al
  have HU := usable3_num' 200 v1.heap.size (by decide) a b c _ (by simp) (by simp) (by simp) (by simp) (by simp) (by simp) ia ib ic (Sz.len2 sa) (Sz.len2 sb) (Sz.len2 sc)
  refine HU.mono ?_
  clear HU
  rintro e v2 ⟨rfl, hb⟩
  clear pia pia'
  replace ia := ia.below hb (Nat.le_refl _)
  replace xia := xia.on hb
  obtain ⟨pia, pia'⟩ := xia.cells
  clear pib pib'
  replace ib := ib.below hb (Nat.le_refl _)
  replace xib := xib.on hb
  obtain ⟨pib, pib'⟩ := xib.cells
  clear pic pic'
  replace ic := ic.below hb (Nat.le_refl _)
  replace xic := xic.on hb
  obtain ⟨pic, pic'⟩ := xic.cells
  replace hB := hB.trans (hb.mono hB.size)
  clear hb
  go_wp2_with fail
  refine (HK0.out _ _ _ ia ib).mono ?_
  rintro e v3 ⟨rfl, hb⟩
  replace ia := ia.below hb (Nat.le_refl _)
  replace xia := xia.on hb; clear pia pia'; obtain ⟨pia, pia'⟩ := xia.cells
  replace ib := ib.below hb (Nat.le_refl _)
  replace xib := xib.on hb; clear pib pib'; obtain ⟨pib, pib'⟩ := xib.cells
  replace ic := ic.below hb (Nat.le_refl _)
  replace xic := xic.on hb; clear pic pic'; obtain ⟨pic, pic'⟩ := xic.cells
  replace hB := hB.trans (hb.mono hB.size)
  clear hb
  go_wp2_with fail
  have q1 : IntKind.i64.wrap 1 = 1 := by decide
  have q2 : IntKind.i64.wrap (-1) = -1 := by decide
  have q3 : IntKind.i64.wrap 0 = 0 := by decide
  have q4 : IntKind.i64.wrap (- -1) = 1 := by decide
  have q5 : IntKind.i64.wrap (-0) = 0 := by decide
  replace hB : Below w.heap.size w v3.drew := hB.drew
  replace ia : Num v3.drew _ _ := ia
  replace ib : Num v3.drew _ _ := ib
  replace ic : Num v3.drew _ _ := ic
  replace xia : Bx v3.drew _ _ _ := xia
  replace xib : Bx v3.drew _ _ _ := xib
  replace xic : Bx v3.drew _ _ _ := xic
  go_region_held3 (fun w' => w'.cell? ⟨w.heap.size, 0, none⟩ = some (.bool bia) ∧ w'.cell? ⟨w.heap.size, 1, none⟩ = some (.slice aia kia cia) ∧ w'.cell? ⟨w.heap.size + 1, 0, none⟩ = some (.bool bib) ∧ w'.cell? ⟨w.heap.size + 1, 1, none⟩ = some (.slice aib kib cib) ∧ w'.cell? ⟨w.heap.size + 1 + 1, 0, none⟩ = some (.bool bic) ∧ w'.cell? ⟨w.heap.size + 1 + 1, 1, none⟩ = some (.slice aic kic cic))
    (first | exact ⟨pia, pia', pib, pib', pic, pic'⟩ | go_keep)
    (first
    | (go_at_call 33; ((with_reducible refine (HK1.out _ _ _ ib ia).mono ?_); rintro e wn ⟨rfl, hb⟩; replace ia := ia.below hb (Nat.le_refl _); replace ib := ib.below hb (Nat.le_refl _); replace ic := ic.below hb (Nat.le_refl _); replace xia := xia.on hb; clear pia pia'; obtain ⟨pia, pia'⟩ := xia.cells; replace xib := xib.on hb; clear pib pib'; obtain ⟨pib, pib'⟩ := xib.cells; replace xic := xic.on hb; clear pic pic'; obtain ⟨pic, pic'⟩ := xic.cells; (try replace lab := lab.below hb (Nat.le_refl _)); (try replace z0 := z0.below hb (Nat.le_refl _)); (try replace gac := gac.below hb (Nat.le_refl _)); (try replace gbc := gbc.below hb (Nat.le_refl _)); replace hB := hB.trans (hb.mono hB.size); clear hb))
    | (go_at_call 35; ((with_reducible refine (HK2.out _ _ _ ia ib).mono ?_); rintro e wn ⟨rfl, hb⟩; replace ia := ia.below hb (Nat.le_refl _); replace ib := ib.below hb (Nat.le_refl _); replace ic := ic.below hb (Nat.le_refl _); replace xia := xia.on hb; clear pia pia'; obtain ⟨pia, pia'⟩ := xia.cells; replace xib := xib.on hb; clear pib pib'; obtain ⟨pib, pib'⟩ := xib.cells; replace xic := xic.on hb; clear pic pic'; obtain ⟨pic, pic'⟩ := xic.cells; (try replace lab := lab.below hb (Nat.le_refl _)); (try replace z0 := z0.below hb (Nat.le_refl _)); (try replace gac := gac.below hb (Nat.le_refl _)); (try replace gbc := gbc.below hb (Nat.le_refl _)); replace hB := hB.trans (hb.mono hB.size); clear hb))
    | (go_at_call 34; ((with_reducible refine (HK3.out _ _ _ ia ib).mono ?_); rintro e wn ⟨⟨v, rfl, hn⟩, hb⟩; obtain ⟨blab, alab, klab, clab, rfl⟩ := hn.opened; replace ia := ia.below hb (Nat.le_refl _); replace ib := ib.below hb (Nat.le_refl _); replace ic := ic.below hb (Nat.le_refl _); replace xia := xia.on hb; clear pia pia'; obtain ⟨pia, pia'⟩ := xia.cells; replace xib := xib.on hb; clear pib pib'; obtain ⟨pib, pib'⟩ := xib.cells; replace xic := xic.on hb; clear pic pic'; obtain ⟨pic, pic'⟩ := xic.cells; (try replace lab := lab.below hb (Nat.le_refl _)); (try replace z0 := z0.below hb (Nat.le_refl _)); (try replace gac := gac.below hb (Nat.le_refl _)); (try replace gbc := gbc.below hb (Nat.le_refl _)); replace hB := hB.trans (hb.mono hB.size); have lab := hn.num; clear hb hn))
    | (go_at_call 25; ((with_reducible refine (HK4.out _).mono ?_); rintro e wn ⟨⟨v, rfl, hn⟩, hb⟩; obtain ⟨bz0, az0, kz0, cz0, rfl⟩ := hn.opened; replace ia := ia.below hb (Nat.le_refl _); replace ib := ib.below hb (Nat.le_refl _); replace ic := ic.below hb (Nat.le_refl _); replace xia := xia.on hb; clear pia pia'; obtain ⟨pia, pia'⟩ := xia.cells; replace xib := xib.on hb; clear pib pib'; obtain ⟨pib, pib'⟩ := xib.cells; replace xic := xic.on hb; clear pic pic'; obtain ⟨pic, pic'⟩ := xic.cells; (try replace lab := lab.below hb (Nat.le_refl _)); (try replace z0 := z0.below hb (Nat.le_refl _)); (try replace gac := gac.below hb (Nat.le_refl _)); (try replace gbc := gbc.below hb (Nat.le_refl _)); replace hB := hB.trans (hb.mono hB.size); have z0 := hn.num; clear hb hn))
    | (go_at_call 33; ((with_reducible refine (HK5.out _ _ _ lab z0).mono ?_); rintro e wn ⟨rfl, hb⟩; replace ia := ia.below hb (Nat.le_refl _); replace ib := ib.below hb (Nat.le_refl _); replace ic := ic.below hb (Nat.le_refl _); replace xia := xia.on hb; clear pia pia'; obtain ⟨pia, pia'⟩ := xia.cells; replace xib := xib.on hb; clear pib pib'; obtain ⟨pib, pib'⟩ := xib.cells; replace xic := xic.on hb; clear pic pic'; obtain ⟨pic, pic'⟩ := xic.cells; (try replace lab := lab.below hb (Nat.le_refl _)); (try replace z0 := z0.below hb (Nat.le_refl _)); (try replace gac := gac.below hb (Nat.le_refl _)); (try replace gbc := gbc.below hb (Nat.le_refl _)); replace hB := hB.trans (hb.mono hB.size); clear hb))
    | (go_at_call 31; ((with_reducible refine (HK6.out _ _ _ ia ic).mono ?_); rintro e wn ⟨⟨v, rfl, hn⟩, hb⟩; obtain ⟨bgac, agac, kgac, cgac, rfl⟩ := hn.opened; replace ia := ia.below hb (Nat.le_refl _); replace ib := ib.below hb (Nat.le_refl _); replace ic := ic.below hb (Nat.le_refl _); replace xia := xia.on hb; clear pia pia'; obtain ⟨pia, pia'⟩ := xia.cells; replace xib := xib.on hb; clear pib pib'; obtain ⟨pib, pib'⟩ := xib.cells; replace xic := xic.on hb; clear pic pic'; obtain ⟨pic, pic'⟩ := xic.cells; (try replace lab := lab.below hb (Nat.le_refl _)); (try replace z0 := z0.below hb (Nat.le_refl _)); (try replace gac := gac.below hb (Nat.le_refl _)); (try replace gbc := gbc.below hb (Nat.le_refl _)); replace hB := hB.trans (hb.mono hB.size); have gac := hn.num; clear hb hn))
    | (go_at_call 31; ((with_reducible refine (HK7.out _ _ _ ib ic).mono ?_); rintro e wn ⟨⟨v, rfl, hn⟩, hb⟩; obtain ⟨bgbc, agbc, kgbc, cgbc, rfl⟩ := hn.opened; replace ia := ia.below hb (Nat.le_refl _); replace ib := ib.below hb (Nat.le_refl _); replace ic := ic.below hb (Nat.le_refl _); replace xia := xia.on hb; clear pia pia'; obtain ⟨pia, pia'⟩ := xia.cells; replace xib := xib.on hb; clear pib pib'; obtain ⟨pib, pib'⟩ := xib.cells; replace xic := xic.on hb; clear pic pic'; obtain ⟨pic, pic'⟩ := xic.cells; (try replace lab := lab.below hb (Nat.le_refl _)); (try replace z0 := z0.below hb (Nat.le_refl _)); (try replace gac := gac.below hb (Nat.le_refl _)); (try replace gbc := gbc.below hb (Nat.le_refl _)); replace hB := hB.trans (hb.mono hB.size); have gbc := hn.num; clear hb hn))
    | (go_at_call 33; ((with_reducible refine (HK8.out _ _ _ gac gbc).mono ?_); rintro e wn ⟨rfl, hb⟩; replace ia := ia.below hb (Nat.le_refl _); replace ib := ib.below hb (Nat.le_refl _); replace ic := ic.below hb (Nat.le_refl _); replace xia := xia.on hb; clear pia pia'; obtain ⟨pia, pia'⟩ := xia.cells; replace xib := xib.on hb; clear pib pib'; obtain ⟨pib, pib'⟩ := xib.cells; replace xic := xic.on hb; clear pic pic'; obtain ⟨pic, pic'⟩ := xic.cells; (try replace lab := lab.below hb (Nat.le_refl _)); (try replace z0 := z0.below hb (Nat.le_refl _)); (try replace gac := gac.below hb (Nat.le_refl _)); (try replace gbc := gbc.below hb (Nat.le_refl _)); replace hB := hB.trans (hb.mono hB.size); clear hb)))
  go_wp2_with fail
  obtain ⟨wcur, hcur⟩ : ∃ W : World, W = wn := ⟨_, rfl⟩
  subst hcur
  replace hB : Below w.heap.size w wcur.drew := hB.drew
  replace ia : Num wcur.drew _ _ := ia
  replace ib : Num wcur.drew _ _ := ib
  replace ic : Num wcur.drew _ _ := ic
  replace xia : Bx wcur.drew _ _ _ := xia
  replace xib : Bx wcur.drew _ _ _ := xib
  replace xic : Bx wcur.drew _ _ _ := xic
  go_region_held3 (fun w' => w'.cell? ⟨w.heap.size, 0, none⟩ = some (.bool bia) ∧ w'.cell? ⟨w.heap.size, 1, none⟩ = some (.slice aia kia cia) ∧ w'.cell? ⟨w.heap.size + 1, 0, none⟩ = some (.bool bib) ∧ w'.cell? ⟨w.heap.size + 1, 1, none⟩ = some (.slice aib kib cib) ∧ w'.cell? ⟨w.heap.size + 1 + 1, 0, none⟩ = some (.bool bic) ∧ w'.cell? ⟨w.heap.size + 1 + 1, 1, none⟩ = some (.slice aic kic cic))
    (first | exact ⟨pia, pia', pib, pib', pic, pic'⟩ | go_keep)
    (first
    | (go_at_call 25; ((with_reducible refine (HK9.out _).mono ?_); rintro e wn ⟨⟨v, rfl, hn⟩, hb⟩; obtain ⟨bm1, am1, km1, cm1, rfl⟩ := hn.opened; replace ia := ia.below hb (Nat.le_refl _); replace ib := ib.below hb (Nat.le_refl _); replace ic := ic.below hb (Nat.le_refl _); replace xia := xia.on hb; clear pia pia'; obtain ⟨pia, pia'⟩ := xia.cells; replace xib := xib.on hb; clear pib pib'; obtain ⟨pib, pib'⟩ := xib.cells; replace xic := xic.on hb; clear pic pic'; obtain ⟨pic, pic'⟩ := xic.cells; (try replace m1 := m1.below hb (Nat.le_refl _)); (try replace pa1 := pa1.below hb (Nat.le_refl _)); (try replace pb1 := pb1.below hb (Nat.le_refl _)); replace hB := hB.trans (hb.mono hB.size); have m1 := hn.num; clear hb hn))
    | (go_at_call 32; ((with_reducible refine (HK10.out _ _ _ ia m1).mono ?_); rintro e wn ⟨⟨v, rfl, hn⟩, hb⟩; obtain ⟨bpa1, apa1, kpa1, cpa1, rfl⟩ := hn.opened; replace ia := ia.below hb (Nat.le_refl _); replace ib := ib.below hb (Nat.le_refl _); replace ic := ic.below hb (Nat.le_refl _); replace xia := xia.on hb; clear pia pia'; obtain ⟨pia, pia'⟩ := xia.cells; replace xib := xib.on hb; clear pib pib'; obtain ⟨pib, pib'⟩ := xib.cells; replace xic := xic.on hb; clear pic pic'; obtain ⟨pic, pic'⟩ := xic.cells; (try replace m1 := m1.below hb (Nat.le_refl _)); (try replace pa1 := pa1.below hb (Nat.le_refl _)); (try replace pb1 := pb1.below hb (Nat.le_refl _)); replace hB := hB.trans (hb.mono hB.size); have pa1 := hn.num; clear hb hn))
    | (go_at_call 32; ((with_reducible refine (HK11.out _ _ _ ib m1).mono ?_); rintro e wn ⟨⟨v, rfl, hn⟩, hb⟩; obtain ⟨bpb1, apb1, kpb1, cpb1, rfl⟩ := hn.opened; replace ia := ia.below hb (Nat.le_refl _); replace ib := ib.below hb (Nat.le_refl _); replace ic := ic.below hb (Nat.le_refl _); replace xia := xia.on hb; clear pia pia'; obtain ⟨pia, pia'⟩ := xia.cells; replace xib := xib.on hb; clear pib pib'; obtain ⟨pib, pib'⟩ := xib.cells; replace xic := xic.on hb; clear pic pic'; obtain ⟨pic, pic'⟩ := xic.cells; (try replace m1 := m1.below hb (Nat.le_refl _)); (try replace pa1 := pa1.below hb (Nat.le_refl _)); (try replace pb1 := pb1.below hb (Nat.le_refl _)); replace hB := hB.trans (hb.mono hB.size); have pb1 := hn.num; clear hb hn))
    | (go_at_call 33; ((with_reducible refine (HK12.out _ _ _ pa1 pb1).mono ?_); rintro e wn ⟨rfl, hb⟩; replace ia := ia.below hb (Nat.le_refl _); replace ib := ib.below hb (Nat.le_refl _); replace ic := ic.below hb (Nat.le_refl _); replace xia := xia.on hb; clear pia pia'; obtain ⟨pia, pia'⟩ := xia.cells; replace xib := xib.on hb; clear pib pib'; obtain ⟨pib, pib'⟩ := xib.cells; replace xic := xic.on hb; clear pic pic'; obtain ⟨pic, pic'⟩ := xic.cells; (try replace m1 := m1.below hb (Nat.le_refl _)); (try replace pa1 := pa1.below hb (Nat.le_refl _)); (try replace pb1 := pb1.below hb (Nat.le_refl _)); replace hB := hB.trans (hb.mono hB.size); clear hb)))
  rcases Int.lt_trichotomy b c with hbc | hbc | hbc
  · have hab := HAB.out
    have HP := Lib.hid (fun vx vy W (h : Num W vx b) (g : Num W vy c) => Cmp_lit vx vy b c (-1) (by unfold cmpI; split <;> (try split) <;> omega) (Sz.len sb (by decide)) (Sz.len sc (by decide)) W h g)
    have HQ := Lib.hid (fun vx vy W (h : Num W vx a) (g : Num W vy c) => Cmp_lit vx vy a c (-1) (by unfold cmpI; split <;> (try split) <;> omega) (Sz.len sa (by decide)) (Sz.len sc (by decide)) W h g)
    clear hbc hab
    go_wp2_with fail
    refine (HP.out _ _ _ ib ic).mono ?_
    rintro e v4 ⟨rfl, hb⟩
    replace ia := ia.below hb (Nat.le_refl _)
    replace xia := xia.on hb; clear pia pia'; obtain ⟨pia, pia'⟩ := xia.cells
    replace ib := ib.below hb (Nat.le_refl _)
    replace xib := xib.on hb; clear pib pib'; obtain ⟨pib, pib'⟩ := xib.cells
    replace ic := ic.below hb (Nat.le_refl _)
    replace xic := xic.on hb; clear pic pic'; obtain ⟨pic, pic'⟩ := xic.cells
    replace hB := hB.trans (hb.mono hB.size)
    clear hb
    go_wp2_with fail
    refine (HQ.out _ _ _ ia ic).mono ?_
    rintro e v5 ⟨rfl, hb⟩
    replace hB := hB.trans (hb.mono hB.size)
    go_wp2
    go_ret
    exact ⟨rfl, hB⟩
  · have hab := HAB.out
    have HP := Lib.hid (fun vx vy W (h : Num W vx b) (g : Num W vy c) => Cmp_lit vx vy b c (0) (by unfold cmpI; split <;> (try split) <;> omega) (Sz.len sb (by decide)) (Sz.len sc (by decide)) W h g)
    clear hbc hab
    go_wp2_with fail
    refine (HP.out _ _ _ ib ic).mono ?_
    rintro e v4 ⟨rfl, hb⟩
    replace ia := ia.below hb (Nat.le_refl _)
    replace xia := xia.on hb; clear pia pia'; obtain ⟨pia, pia'⟩ := xia.cells
    replace ib := ib.below hb (Nat.le_refl _)
    replace xib := xib.on hb; clear pib pib'; obtain ⟨pib, pib'⟩ := xib.cells
    replace ic := ic.below hb (Nat.le_refl _)
    replace xic := xic.on hb; clear pic pic'; obtain ⟨pic, pic'⟩ := xic.cells
    replace hB := hB.trans (hb.mono hB.size)
    clear hb
    go_wp2
    go_ret
    exact ⟨rfl, hB⟩
  · have hab := HAB.out
    have HP := Lib.hid (fun vx vy W (h : Num W vx b) (g : Num W vy c) => Cmp_lit vx vy b c (1) (by unfold cmpI; split <;> (try split) <;> omega) (Sz.len sb (by decide)) (Sz.len sc (by decide)) W h g)
    clear hbc hab
    go_wp2_with fail
    refine (HP.out _ _ _ ib ic).mono ?_
    rintro e v4 ⟨rfl, hb⟩
    replace ia := ia.below hb (Nat.le_refl _)
    replace xia := xia.on hb; clear pia pia'; obtain ⟨pia, pia'⟩ := xia.cells
    replace ib := ib.below hb (Nat.le_refl _)
    replace xib := xib.on hb; clear pib pib'; obtain ⟨pib, pib'⟩ := xib.cells
    replace ic := ic.below hb (Nat.le_refl _)
    replace xic := xic.on hb; clear pic pic'; obtain ⟨pic, pic'⟩ := xic.cells
    replace hB := hB.trans (hb.mono hB.size)
    clear hb
    go_wp2
    go_ret
    exact ⟨rfl, hB⟩

set_option maxRecDepth 100000 in
set_option maxHeartbeats 64000000 in
theorem WholeOrder_same (a b c : Int) (sa : Sz 200 a) (sb : Sz 200 b) (sc : Sz 200 c) (bia : Bool) (aia : Option Addr) (kia cia : Nat) (bib : Bool) (aib : Option Addr) (kib cib : Nat) (bic : Bool) (aic : Option Addr) (kic cic : Nat) (hab : a = b) (w : World) (ia : Num w (.agg #[.bool bia, .slice aia kia cia]) a) (ib : Num w (.agg #[.bool bib, .slice aib kib cib]) b) (ic : Num w (.agg #[.bool bic, .slice aic kic cic]) c) :
    Calls Try.prog 7 #[.agg #[.bool bia, .slice aia kia cia], .agg #[.bool bib, .slice aib kib cib], .agg #[.bool bic, .slice aic kic cic]] w fun e w' => e = .returned (.bool true) ∧ Below w.heap.size w w' := by
  have HK0 := Lib.hid (fun vx vy W (h : Num W vx (a)) (g : Num W vy (b)) => Cmp_lit vx vy (a) (b) (0) ((by unfold cmpI; split <;> (try split) <;> omega)) (Sz.len sa (by decide)) (Sz.len sb (by decide)) W h g)
  have HK1 := Lib.hid (fun vx vy W (h : Num W vx (b)) (g : Num W vy (a)) => Cmp_lit vx vy (b) (a) (0) ((by unfold cmpI; split <;> (try split) <;> omega)) (Sz.len sb (by decide)) (Sz.len sa (by decide)) W h g)
  have HK2 := Lib.hid (fun vx vy W (h : Num W vx (a)) (g : Num W vy (b)) => Same_lit vx vy (a) (b) true (by simp; omega) W h g)
  have HK3 := Lib.hid (fun vx vy W (h : Num W vx (a)) (g : Num W vy (b)) => law_less_any vx vy (a) (b) (a - b) (rfl) (Sz.len sa (by decide)) (Sz.len sb (by decide)) (Sz.len (Sz.sub sa sb) (by decide)) W h g)
  have HK4 := Lib.hid (fun W => num_any (0) (by decide) (by decide) W)
  have HK5 := Lib.hid (fun vx vy W (h : Num W vx (a - b)) (g : Num W vy (0)) => Cmp_lit vx vy (a - b) (0) (0) ((by unfold cmpI; split <;> (try split) <;> omega)) (Sz.len (Sz.sub sa sb) (by decide)) (Sz.len (Sz.small (z := 0) (by decide)) (by decide)) W h g)
  have HK6 := Lib.hid (fun vx vy W (h : Num W vx (a)) (g : Num W vy (c)) => law_sum_any vx vy (a) (c) (a + c) (rfl) (Sz.len sa (by decide)) (Sz.len sc (by decide)) (Sz.len (Sz.add sa sc) (by decide)) W h g)
  have HK7 := Lib.hid (fun vx vy W (h : Num W vx (b)) (g : Num W vy (c)) => law_sum_any vx vy (b) (c) (b + c) (rfl) (Sz.len sb (by decide)) (Sz.len sc (by decide)) (Sz.len (Sz.add sb sc) (by decide)) W h g)
  have HK8 := Lib.hid (fun vx vy W (h : Num W vx (a + c)) (g : Num W vy (b + c)) => Cmp_lit vx vy (a + c) (b + c) (0) ((by unfold cmpI; split <;> (try split) <;> omega)) (Sz.len (Sz.add sa sc) (by decide)) (Sz.len (Sz.add sb sc) (by decide)) W h g)
  have HK9 := Lib.hid (fun W => num_any (-1) (by decide) (by decide) W)
  have HK10 := Lib.hid (fun vx vy W (h : Num W vx (a)) (g : Num W vy (-1)) => law_product_any vx vy (a) (-1) (a * (-1)) (rfl) (Sz.len sa (by decide)) (Sz.len (Sz.small (z := -1) (by decide)) (by decide)) (Sz.len (Sz.mul sa (Sz.small (z := -1) (by decide))) (by decide)) W h g)
  have HK11 := Lib.hid (fun vx vy W (h : Num W vx (b)) (g : Num W vy (-1)) => law_product_any vx vy (b) (-1) (b * (-1)) (rfl) (Sz.len sb (by decide)) (Sz.len (Sz.small (z := -1) (by decide)) (by decide)) (Sz.len (Sz.mul sb (Sz.small (z := -1) (by decide))) (by decide)) W h g)
  have HK12 := Lib.hid (fun vx vy W (h : Num W vx (a * (-1))) (g : Num W vy (b * (-1))) => Cmp_lit vx vy (a * (-1)) (b * (-1)) (0) ((by unfold cmpI; split <;> (try split) <;> omega)) (Sz.len (Sz.mul sa (Sz.small (z := -1) (by decide))) (by decide)) (Sz.len (Sz.mul sb (Sz.small (z := -1) (by decide))) (by decide)) W h g)
  have HAB := Lib.hid hab
  clear hab
  have hB := ((((Below.refl w.heap.size w).alloc (by simp <;> omega) (.cells #[.bool bia, .slice aia kia cia] 26)).alloc (by simp <;> omega) (.cells #[.bool bib, .slice aib kib cib] 26)).alloc (by simp <;> omega) (.cells #[.bool bic, .slice aic kic cic] 26))
  have xia := (((Bx.new w (.bool bia) (.slice aia kia cia)).alloc (.cells #[.bool bib, .slice aib kib cib] 26)).alloc (.cells #[.bool bic, .slice aic kic cic] 26))
  have xib := ((Bx.new (w.alloc (.cells #[.bool bia, .slice aia kia cia] 26)) (.bool bib) (.slice aib kib cib)).alloc (.cells #[.bool bic, .slice aic kic cic] 26))
  simp only [World.size_alloc] at xib
  have xic := (Bx.new ((w.alloc (.cells #[.bool bia, .slice aia kia cia] 26)).alloc (.cells #[.bool bib, .slice aib kib cib] 26)) (.bool bic) (.slice aic kic cic))
  simp only [World.size_alloc] at xic
  replace ia := ia.below hB (Nat.le_refl _)
  replace ib := ib.below hB (Nat.le_refl _)
  replace ic := ic.below hB (Nat.le_refl _)
  go_enter Try.func7, Try.ntmps7
  go_wp2_with fail
  refine (awake_any _).mono ?_
  rintro e v1 ⟨rfl, hb⟩
  replace ia := ia.below hb (Nat.le_refl _)
  replace xia := xia.on hb
  obtain ⟨pia, pia'⟩ := xia.cells
  replace ib := ib.below hb (Nat.le_refl _)
  replace xib := xib.on hb
  obtain ⟨pib, pib'⟩ := xib.cells
  replace ic := ic.below hb (Nat.le_refl _)
  replace xic := xic.on hb
  obtain ⟨pic, pic'⟩ := xic.cells
  replace hB := hB.trans (hb.mono hB.size)
  clear hb
  go_wp2_with fail
  have al := (Below.refl v1.heap.size v1).alloc (Nat.le_refl _) (.cells #[.bool bia, .slice aia kia cia, .bool bib, .slice aib kib cib, .bool bic, .slice aic kic cic] 26)
  replace ia := ia.below al (Nat.le_refl _)
  replace xia := xia.on al
  replace ib := ib.below al (Nat.le_refl _)
  replace xib := xib.on al
  replace ic := ic.below al (Nat.le_refl _)
  replace xic := xic.on al
  replace hB := hB.alloc hB.size (.cells #[.bool bia, .slice aia kia cia, .bool bib, .slice aib kib cib, .bool bic, .slice aic kic cic] 26)
  clear al
  have HU := usable3_num' 200 v1.heap.size (by decide) a b c _ (by simp) (by simp) (by simp) (by simp) (by simp) (by simp) ia ib ic (Sz.len2 sa) (Sz.len2 sb) (Sz.len2 sc)
  refine HU.mono ?_
  clear HU
  rintro e v2 ⟨rfl, hb⟩
  clear pia pia'
  replace ia := ia.below hb (Nat.le_refl _)
  replace xia := xia.on hb
  obtain ⟨pia, pia'⟩ := xia.cells
  clear pib pib'
  replace ib := ib.below hb (Nat.le_refl _)
  replace xib := xib.on hb
  obtain ⟨pib, pib'⟩ := xib.cells
  clear pic pic'
  replace ic := ic.below hb (Nat.le_refl _)
  replace xic := xic.on hb
  obtain ⟨pic, pic'⟩ := xic.cells
  replace hB := hB.trans (hb.mono hB.size)
  clear hb
  go_wp2_with fail
  refine (HK0.out _ _ _ ia ib).mono ?_
  rintro e v3 ⟨rfl, hb⟩
  replace ia := ia.below hb (Nat.le_refl _)
  replace xia := xia.on hb; clear pia pia'; obtain ⟨pia, pia'⟩ := xia.cells
  replace ib := ib.below hb (Nat.le_refl _)
  replace xib := xib.on hb; clear pib pib'; obtain ⟨pib, pib'⟩ := xib.cells
  replace ic := ic.below hb (Nat.le_refl _)
  replace xic := xic.on hb; clear pic pic'; obtain ⟨pic, pic'⟩ := xic.cells
  replace hB := hB.trans (hb.mono hB.size)
  clear hb
  go_wp2_with fail
  have q1 : IntKind.i64.wrap 1 = 1 := by decide
  have q2 : IntKind.i64.wrap (-1) = -1 := by decide
  have q3 : IntKind.i64.wrap 0 = 0 := by decide
  have q4 : IntKind.i64.wrap (- -1) = 1 := by decide
  have q5 : IntKind.i64.wrap (-0) = 0 := by decide
  replace hB : Below w.heap.size w v3.drew := hB.drew
  replace ia : Num v3.drew _ _ := ia
  replace ib : Num v3.drew _ _ := ib
  replace ic : Num v3.drew _ _ := ic
  replace xia : Bx v3.drew _ _ _ := xia
  replace xib : Bx v3.drew _ _ _ := xib
  replace xic : Bx v3.drew _ _ _ := xic
  go_region_held3 (fun w' => w'.cell? ⟨w.heap.size, 0, none⟩ = some (.bool bia) ∧ w'.cell? ⟨w.heap.size, 1, none⟩ = some (.slice aia kia cia) ∧ w'.cell? ⟨w.heap.size + 1, 0, none⟩ = some (.bool bib) ∧ w'.cell? ⟨w.heap.size + 1, 1, none⟩ = some (.slice aib kib cib) ∧ w'.cell? ⟨w.heap.size + 1 + 1, 0, none⟩ = some (.bool bic) ∧ w'.cell? ⟨w.heap.size + 1 + 1, 1, none⟩ = some (.slice aic kic cic))
    (first | exact ⟨pia, pia', pib, pib', pic, pic'⟩ | go_keep)
    (first
    | (go_at_call 33; ((with_reducible refine (HK1.out _ _ _ ib ia).mono ?_); rintro e wn ⟨rfl, hb⟩; replace ia := ia.below hb (Nat.le_refl _); replace ib := ib.below hb (Nat.le_refl _); replace ic := ic.below hb (Nat.le_refl _); replace xia := xia.on hb; clear pia pia'; obtain ⟨pia, pia'⟩ := xia.cells; replace xib := xib.on hb; clear pib pib'; obtain ⟨pib, pib'⟩ := xib.cells; replace xic := xic.on hb; clear pic pic'; obtain ⟨pic, pic'⟩ := xic.cells; (try replace lab := lab.below hb (Nat.le_refl _)); (try replace z0 := z0.below hb (Nat.le_refl _)); (try replace gac := gac.below hb (Nat.le_refl _)); (try replace gbc := gbc.below hb (Nat.le_refl _)); replace hB := hB.trans (hb.mono hB.size); clear hb))
    | (go_at_call 35; ((with_reducible refine (HK2.out _ _ _ ia ib).mono ?_); rintro e wn ⟨rfl, hb⟩; replace ia := ia.below hb (Nat.le_refl _); replace ib := ib.below hb (Nat.le_refl _); replace ic := ic.below hb (Nat.le_refl _); replace xia := xia.on hb; clear pia pia'; obtain ⟨pia, pia'⟩ := xia.cells; replace xib := xib.on hb; clear pib pib'; obtain ⟨pib, pib'⟩ := xib.cells; replace xic := xic.on hb; clear pic pic'; obtain ⟨pic, pic'⟩ := xic.cells; (try replace lab := lab.below hb (Nat.le_refl _)); (try replace z0 := z0.below hb (Nat.le_refl _)); (try replace gac := gac.below hb (Nat.le_refl _)); (try replace gbc := gbc.below hb (Nat.le_refl _)); replace hB := hB.trans (hb.mono hB.size); clear hb))
    | (go_at_call 34; ((with_reducible refine (HK3.out _ _ _ ia ib).mono ?_); rintro e wn ⟨⟨v, rfl, hn⟩, hb⟩; obtain ⟨blab, alab, klab, clab, rfl⟩ := hn.opened; replace ia := ia.below hb (Nat.le_refl _); replace ib := ib.below hb (Nat.le_refl _); replace ic := ic.below hb (Nat.le_refl _); replace xia := xia.on hb; clear pia pia'; obtain ⟨pia, pia'⟩ := xia.cells; replace xib := xib.on hb; clear pib pib'; obtain ⟨pib, pib'⟩ := xib.cells; replace xic := xic.on hb; clear pic pic'; obtain ⟨pic, pic'⟩ := xic.cells; (try replace lab := lab.below hb (Nat.le_refl _)); (try replace z0 := z0.below hb (Nat.le_refl _)); (try replace gac := gac.below hb (Nat.le_refl _)); (try replace gbc := gbc.below hb (Nat.le_refl _)); replace hB := hB.trans (hb.mono hB.size); have lab := hn.num; clear hb hn))
    | (go_at_call 25; ((with_reducible refine (HK4.out _).mono ?_); rintro e wn ⟨⟨v, rfl, hn⟩, hb⟩; obtain ⟨bz0, az0, kz0, cz0, rfl⟩ := hn.opened; replace ia := ia.below hb (Nat.le_refl _); replace ib := ib.below hb (Nat.le_refl _); replace ic := ic.below hb (Nat.le_refl _); replace xia := xia.on hb; clear pia pia'; obtain ⟨pia, pia'⟩ := xia.cells; replace xib := xib.on hb; clear pib pib'; obtain ⟨pib, pib'⟩ := xib.cells; replace xic := xic.on hb; clear pic pic'; obtain ⟨pic, pic'⟩ := xic.cells; (try replace lab := lab.below hb (Nat.le_refl _)); (try replace z0 := z0.below hb (Nat.le_refl _)); (try replace gac := gac.below hb (Nat.le_refl _)); (try replace gbc := gbc.below hb (Nat.le_refl _)); replace hB := hB.trans (hb.mono hB.size); have z0 := hn.num; clear hb hn))
    | (go_at_call 33; ((with_reducible refine (HK5.out _ _ _ lab z0).mono ?_); rintro e wn ⟨rfl, hb⟩; replace ia := ia.below hb (Nat.le_refl _); replace ib := ib.below hb (Nat.le_refl _); replace ic := ic.below hb (Nat.le_refl _); replace xia := xia.on hb; clear pia pia'; obtain ⟨pia, pia'⟩ := xia.cells; replace xib := xib.on hb; clear pib pib'; obtain ⟨pib, pib'⟩ := xib.cells; replace xic := xic.on hb; clear pic pic'; obtain ⟨pic, pic'⟩ := xic.cells; (try replace lab := lab.below hb (Nat.le_refl _)); (try replace z0 := z0.below hb (Nat.le_refl _)); (try replace gac := gac.below hb (Nat.le_refl _)); (try replace gbc := gbc.below hb (Nat.le_refl _)); replace hB := hB.trans (hb.mono hB.size); clear hb))
    | (go_at_call 31; ((with_reducible refine (HK6.out _ _ _ ia ic).mono ?_); rintro e wn ⟨⟨v, rfl, hn⟩, hb⟩; obtain ⟨bgac, agac, kgac, cgac, rfl⟩ := hn.opened; replace ia := ia.below hb (Nat.le_refl _); replace ib := ib.below hb (Nat.le_refl _); replace ic := ic.below hb (Nat.le_refl _); replace xia := xia.on hb; clear pia pia'; obtain ⟨pia, pia'⟩ := xia.cells; replace xib := xib.on hb; clear pib pib'; obtain ⟨pib, pib'⟩ := xib.cells; replace xic := xic.on hb; clear pic pic'; obtain ⟨pic, pic'⟩ := xic.cells; (try replace lab := lab.below hb (Nat.le_refl _)); (try replace z0 := z0.below hb (Nat.le_refl _)); (try replace gac := gac.below hb (Nat.le_refl _)); (try replace gbc := gbc.below hb (Nat.le_refl _)); replace hB := hB.trans (hb.mono hB.size); have gac := hn.num; clear hb hn))
    | (go_at_call 31; ((with_reducible refine (HK7.out _ _ _ ib ic).mono ?_); rintro e wn ⟨⟨v, rfl, hn⟩, hb⟩; obtain ⟨bgbc, agbc, kgbc, cgbc, rfl⟩ := hn.opened; replace ia := ia.below hb (Nat.le_refl _); replace ib := ib.below hb (Nat.le_refl _); replace ic := ic.below hb (Nat.le_refl _); replace xia := xia.on hb; clear pia pia'; obtain ⟨pia, pia'⟩ := xia.cells; replace xib := xib.on hb; clear pib pib'; obtain ⟨pib, pib'⟩ := xib.cells; replace xic := xic.on hb; clear pic pic'; obtain ⟨pic, pic'⟩ := xic.cells; (try replace lab := lab.below hb (Nat.le_refl _)); (try replace z0 := z0.below hb (Nat.le_refl _)); (try replace gac := gac.below hb (Nat.le_refl _)); (try replace gbc := gbc.below hb (Nat.le_refl _)); replace hB := hB.trans (hb.mono hB.size); have gbc := hn.num; clear hb hn))
    | (go_at_call 33; ((with_reducible refine (HK8.out _ _ _ gac gbc).mono ?_); rintro e wn ⟨rfl, hb⟩; replace ia := ia.below hb (Nat.le_refl _); replace ib := ib.below hb (Nat.le_refl _); replace ic := ic.below hb (Nat.le_refl _); replace xia := xia.on hb; clear pia pia'; obtain ⟨pia, pia'⟩ := xia.cells; replace xib := xib.on hb; clear pib pib'; obtain ⟨pib, pib'⟩ := xib.cells; replace xic := xic.on hb; clear pic pic'; obtain ⟨pic, pic'⟩ := xic.cells; (try replace lab := lab.below hb (Nat.le_refl _)); (try replace z0 := z0.below hb (Nat.le_refl _)); (try replace gac := gac.below hb (Nat.le_refl _)); (try replace gbc := gbc.below hb (Nat.le_refl _)); replace hB := hB.trans (hb.mono hB.size); clear hb)))
  go_wp2_with fail
  obtain ⟨wcur, hcur⟩ : ∃ W : World, W = wn := ⟨_, rfl⟩
  subst hcur
  replace hB : Below w.heap.size w wcur.drew := hB.drew
  replace ia : Num wcur.drew _ _ := ia
  replace ib : Num wcur.drew _ _ := ib
  replace ic : Num wcur.drew _ _ := ic
  replace xia : Bx wcur.drew _ _ _ := xia
  replace xib : Bx wcur.drew _ _ _ := xib
  replace xic : Bx wcur.drew _ _ _ := xic
  go_region_held3 (fun w' => w'.cell? ⟨w.heap.size, 0, none⟩ = some (.bool bia) ∧ w'.cell? ⟨w.heap.size, 1, none⟩ = some (.slice aia kia cia) ∧ w'.cell? ⟨w.heap.size + 1, 0, none⟩ = some (.bool bib) ∧ w'.cell? ⟨w.heap.size + 1, 1, none⟩ = some (.slice aib kib cib) ∧ w'.cell? ⟨w.heap.size + 1 + 1, 0, none⟩ = some (.bool bic) ∧ w'.cell? ⟨w.heap.size + 1 + 1, 1, none⟩ = some (.slice aic kic cic))
    (first | exact ⟨pia, pia', pib, pib', pic, pic'⟩ | go_keep)
    (first
    | (go_at_call 25; ((with_reducible refine (HK9.out _).mono ?_); rintro e wn ⟨⟨v, rfl, hn⟩, hb⟩; obtain ⟨bm1, am1, km1, cm1, rfl⟩ := hn.opened; replace ia := ia.below hb (Nat.le_refl _); replace ib := ib.below hb (Nat.le_refl _); replace ic := ic.below hb (Nat.le_refl _); replace xia := xia.on hb; clear pia pia'; obtain ⟨pia, pia'⟩ := xia.cells; replace xib := xib.on hb; clear pib pib'; obtain ⟨pib, pib'⟩ := xib.cells; replace xic := xic.on hb; clear pic pic'; obtain ⟨pic, pic'⟩ := xic.cells; (try replace m1 := m1.below hb (Nat.le_refl _)); (try replace pa1 := pa1.below hb (Nat.le_refl _)); (try replace pb1 := pb1.below hb (Nat.le_refl _)); replace hB := hB.trans (hb.mono hB.size); have m1 := hn.num; clear hb hn))
    | (go_at_call 32; ((with_reducible refine (HK10.out _ _ _ ia m1).mono ?_); rintro e wn ⟨⟨v, rfl, hn⟩, hb⟩; obtain ⟨bpa1, apa1, kpa1, cpa1, rfl⟩ := hn.opened; replace ia := ia.below hb (Nat.le_refl _); replace ib := ib.below hb (Nat.le_refl _); replace ic := ic.below hb (Nat.le_refl _); replace xia := xia.on hb; clear pia pia'; obtain ⟨pia, pia'⟩ := xia.cells; replace xib := xib.on hb; clear pib pib'; obtain ⟨pib, pib'⟩ := xib.cells; replace xic := xic.on hb; clear pic pic'; obtain ⟨pic, pic'⟩ := xic.cells; (try replace m1 := m1.below hb (Nat.le_refl _)); (try replace pa1 := pa1.below hb (Nat.le_refl _)); (try replace pb1 := pb1.below hb (Nat.le_refl _)); replace hB := hB.trans (hb.mono hB.size); have pa1 := hn.num; clear hb hn))
    | (go_at_call 32; ((with_reducible refine (HK11.out _ _ _ ib m1).mono ?_); rintro e wn ⟨⟨v, rfl, hn⟩, hb⟩; obtain ⟨bpb1, apb1, kpb1, cpb1, rfl⟩ := hn.opened; replace ia := ia.below hb (Nat.le_refl _); replace ib := ib.below hb (Nat.le_refl _); replace ic := ic.below hb (Nat.le_refl _); replace xia := xia.on hb; clear pia pia'; obtain ⟨pia, pia'⟩ := xia.cells; replace xib := xib.on hb; clear pib pib'; obtain ⟨pib, pib'⟩ := xib.cells; replace xic := xic.on hb; clear pic pic'; obtain ⟨pic, pic'⟩ := xic.cells; (try replace m1 := m1.below hb (Nat.le_refl _)); (try replace pa1 := pa1.below hb (Nat.le_refl _)); (try replace pb1 := pb1.below hb (Nat.le_refl _)); replace hB := hB.trans (hb.mono hB.size); have pb1 := hn.num; clear hb hn))
    | (go_at_call 33; ((with_reducible refine (HK12.out _ _ _ pa1 pb1).mono ?_); rintro e wn ⟨rfl, hb⟩; replace ia := ia.below hb (Nat.le_refl _); replace ib := ib.below hb (Nat.le_refl _); replace ic := ic.below hb (Nat.le_refl _); replace xia := xia.on hb; clear pia pia'; obtain ⟨pia, pia'⟩ := xia.cells; replace xib := xib.on hb; clear pib pib'; obtain ⟨pib, pib'⟩ := xib.cells; replace xic := xic.on hb; clear pic pic'; obtain ⟨pic, pic'⟩ := xic.cells; (try replace m1 := m1.below hb (Nat.le_refl _)); (try replace pa1 := pa1.below hb (Nat.le_refl _)); (try replace pb1 := pb1.below hb (Nat.le_refl _)); replace hB := hB.trans (hb.mono hB.size); clear hb)))
  rcases Int.lt_trichotomy b c with hbc | hbc | hbc
  · have hab := HAB.out
    have HP := Lib.hid (fun vx vy W (h : Num W vx b) (g : Num W vy c) => Cmp_lit vx vy b c (-1) (by unfold cmpI; split <;> (try split) <;> omega) (Sz.len sb (by decide)) (Sz.len sc (by decide)) W h g)
    clear hbc hab
    go_wp2_with fail
    refine (HP.out _ _ _ ib ic).mono ?_
    rintro e v4 ⟨rfl, hb⟩
    replace ia := ia.below hb (Nat.le_refl _)
    replace xia := xia.on hb; clear pia pia'; obtain ⟨pia, pia'⟩ := xia.cells
    replace ib := ib.below hb (Nat.le_refl _)
    replace xib := xib.on hb; clear pib pib'; obtain ⟨pib, pib'⟩ := xib.cells
    replace ic := ic.below hb (Nat.le_refl _)
    replace xic := xic.on hb; clear pic pic'; obtain ⟨pic, pic'⟩ := xic.cells
    replace hB := hB.trans (hb.mono hB.size)
    clear hb
    go_wp2
    go_ret
    exact ⟨rfl, hB⟩
  · have hab := HAB.out
    have HP := Lib.hid (fun vx vy W (h : Num W vx b) (g : Num W vy c) => Cmp_lit vx vy b c (0) (by unfold cmpI; split <;> (try split) <;> omega) (Sz.len sb (by decide)) (Sz.len sc (by decide)) W h g)
    have HQ := Lib.hid (fun vx vy W (h : Num W vx a) (g : Num W vy c) => Cmp_lit vx vy a c (0) (by unfold cmpI; split <;> (try split) <;> omega) (Sz.len sa (by decide)) (Sz.len sc (by decide)) W h g)
    clear hbc hab
    go_wp2_with fail
    refine (HP.out _ _ _ ib ic).mono ?_
    rintro e v4 ⟨rfl, hb⟩
    replace ia := ia.below hb (Nat.le_refl _)
    replace xia := xia.on hb; clear pia pia'; obtain ⟨pia, pia'⟩ := xia.cells
    replace ib := ib.below hb (Nat.le_refl _)
    replace xib := xib.on hb; clear pib pib'; obtain ⟨pib, pib'⟩ := xib.cells
    replace ic := ic.below hb (Nat.le_refl _)
    replace xic := xic.on hb; clear pic pic'; obtain ⟨pic, pic'⟩ := xic.cells
    replace hB := hB.trans (hb.mono hB.size)
    clear hb
    go_wp2_with fail
    refine (HQ.out _ _ _ ia ic).mono ?_
    rintro e v5 ⟨rfl, hb⟩
    replace hB := hB.trans (hb.mono hB.size)
    go_wp2
    go_ret
    exact ⟨rfl, hB⟩
  · have hab := HAB.out
    have HP := Lib.hid (fun vx vy W (h : Num W vx b) (g : Num W vy c) => Cmp_lit vx vy b c (1) (by unfold cmpI; split <;> (try split) <;> omega) (Sz.len sb (by decide)) (Sz.len sc (by decide)) W h g)
    clear hbc hab
    go_wp2_with fail
    refine (HP.out _ _ _ ib ic).mono ?_
    rintro e v4 ⟨rfl, hb⟩
    replace ia := ia.below hb (Nat.le_refl _)
    replace xia := xia.on hb; clear pia pia'; obtain ⟨pia, pia'⟩ := xia.cells
    replace ib := ib.below hb (Nat.le_refl _)
    replace xib := xib.on hb; clear pib pib'; obtain ⟨pib, pib'⟩ := xib.cells
    replace ic := ic.below hb (Nat.le_refl _)
    replace xic := xic.on hb; clear pic pic'; obtain ⟨pic, pic'⟩ := xic.cells
    replace hB := hB.trans (hb.mono hB.size)
    clear hb
    go_wp2
    go_ret
    exact ⟨rfl, hB⟩

set_option maxRecDepth 100000 in
set_option maxHeartbeats 64000000 in
theorem WholeOrder_more (a b c : Int) (sa : Sz 200 a) (sb : Sz 200 b) (sc : Sz 200 c) (bia : Bool) (aia : Option Addr) (kia cia : Nat) (bib : Bool) (aib : Option Addr) (kib cib : Nat) (bic : Bool) (aic : Option Addr) (kic cic : Nat) (hab : b < a) (w : World) (ia : Num w (.agg #[.bool bia, .slice aia kia cia]) a) (ib : Num w (.agg #[.bool bib, .slice aib kib cib]) b) (ic : Num w (.agg #[.bool bic, .slice aic kic cic]) c) :
    Calls Try.prog 7 #[.agg #[.bool bia, .slice aia kia cia], .agg #[.bool bib, .slice aib kib cib], .agg #[.bool bic, .slice aic kic cic]] w fun e w' => e = .returned (.bool true) ∧ Below w.heap.size w w' := by
  have HK0 := Lib.hid (fun vx vy W (h : Num W vx (a)) (g : Num W vy (b)) => Cmp_lit vx vy (a) (b) (1) ((by unfold cmpI; split <;> (try split) <;> omega)) (Sz.len sa (by decide)) (Sz.len sb (by decide)) W h g)
  have HK1 := Lib.hid (fun vx vy W (h : Num W vx (b)) (g : Num W vy (a)) => Cmp_lit vx vy (b) (a) (-1) ((by unfold cmpI; split <;> (try split) <;> omega)) (Sz.len sb (by decide)) (Sz.len sa (by decide)) W h g)
  have HK2 := Lib.hid (fun vx vy W (h : Num W vx (a)) (g : Num W vy (b)) => Same_lit vx vy (a) (b) false (by simp; omega) W h g)
  have HK3 := Lib.hid (fun vx vy W (h : Num W vx (a)) (g : Num W vy (b)) => law_less_any vx vy (a) (b) (a - b) (rfl) (Sz.len sa (by decide)) (Sz.len sb (by decide)) (Sz.len (Sz.sub sa sb) (by decide)) W h g)
  have HK4 := Lib.hid (fun W => num_any (0) (by decide) (by decide) W)
  have HK5 := Lib.hid (fun vx vy W (h : Num W vx (a - b)) (g : Num W vy (0)) => Cmp_lit vx vy (a - b) (0) (1) ((by unfold cmpI; split <;> (try split) <;> omega)) (Sz.len (Sz.sub sa sb) (by decide)) (Sz.len (Sz.small (z := 0) (by decide)) (by decide)) W h g)
  have HK6 := Lib.hid (fun vx vy W (h : Num W vx (a)) (g : Num W vy (c)) => law_sum_any vx vy (a) (c) (a + c) (rfl) (Sz.len sa (by decide)) (Sz.len sc (by decide)) (Sz.len (Sz.add sa sc) (by decide)) W h g)
  have HK7 := Lib.hid (fun vx vy W (h : Num W vx (b)) (g : Num W vy (c)) => law_sum_any vx vy (b) (c) (b + c) (rfl) (Sz.len sb (by decide)) (Sz.len sc (by decide)) (Sz.len (Sz.add sb sc) (by decide)) W h g)
  have HK8 := Lib.hid (fun vx vy W (h : Num W vx (a + c)) (g : Num W vy (b + c)) => Cmp_lit vx vy (a + c) (b + c) (1) ((by unfold cmpI; split <;> (try split) <;> omega)) (Sz.len (Sz.add sa sc) (by decide)) (Sz.len (Sz.add sb sc) (by decide)) W h g)
  have HK9 := Lib.hid (fun W => num_any (-1) (by decide) (by decide) W)
  have HK10 := Lib.hid (fun vx vy W (h : Num W vx (a)) (g : Num W vy (-1)) => law_product_any vx vy (a) (-1) (a * (-1)) (rfl) (Sz.len sa (by decide)) (Sz.len (Sz.small (z := -1) (by decide)) (by decide)) (Sz.len (Sz.mul sa (Sz.small (z := -1) (by decide))) (by decide)) W h g)
  have HK11 := Lib.hid (fun vx vy W (h : Num W vx (b)) (g : Num W vy (-1)) => law_product_any vx vy (b) (-1) (b * (-1)) (rfl) (Sz.len sb (by decide)) (Sz.len (Sz.small (z := -1) (by decide)) (by decide)) (Sz.len (Sz.mul sb (Sz.small (z := -1) (by decide))) (by decide)) W h g)
  have HK12 := Lib.hid (fun vx vy W (h : Num W vx (a * (-1))) (g : Num W vy (b * (-1))) => Cmp_lit vx vy (a * (-1)) (b * (-1)) (-1) ((by unfold cmpI; split <;> (try split) <;> omega)) (Sz.len (Sz.mul sa (Sz.small (z := -1) (by decide))) (by decide)) (Sz.len (Sz.mul sb (Sz.small (z := -1) (by decide))) (by decide)) W h g)
  have HAB := Lib.hid hab
  clear hab
  have hB := ((((Below.refl w.heap.size w).alloc (by simp <;> omega) (.cells #[.bool bia, .slice aia kia cia] 26)).alloc (by simp <;> omega) (.cells #[.bool bib, .slice aib kib cib] 26)).alloc (by simp <;> omega) (.cells #[.bool bic, .slice aic kic cic] 26))
  have xia := (((Bx.new w (.bool bia) (.slice aia kia cia)).alloc (.cells #[.bool bib, .slice aib kib cib] 26)).alloc (.cells #[.bool bic, .slice aic kic cic] 26))
  have xib := ((Bx.new (w.alloc (.cells #[.bool bia, .slice aia kia cia] 26)) (.bool bib) (.slice aib kib cib)).alloc (.cells #[.bool bic, .slice aic kic cic] 26))
  simp only [World.size_alloc] at xib
  have xic := (Bx.new ((w.alloc (.cells #[.bool bia, .slice aia kia cia] 26)).alloc (.cells #[.bool bib, .slice aib kib cib] 26)) (.bool bic) (.slice aic kic cic))
  simp only [World.size_alloc] at xic
  replace ia := ia.below hB (Nat.le_refl _)
  replace ib := ib.below hB (Nat.le_refl _)
  replace ic := ic.below hB (Nat.le_refl _)
  go_enter Try.func7, Try.ntmps7
  go_wp2_with fail
  refine (awake_any _).mono ?_
  rintro e v1 ⟨rfl, hb⟩
  replace ia := ia.below hb (Nat.le_refl _)
  replace xia := xia.on hb
  obtain ⟨pia, pia'⟩ := xia.cells
  replace ib := ib.below hb (Nat.le_refl _)
  replace xib := xib.on hb
  obtain ⟨pib, pib'⟩ := xib.cells
  replace ic := ic.below hb (Nat.le_refl _)
  replace xic := xic.on hb
  obtain ⟨pic, pic'⟩ := xic.cells
  replace hB := hB.trans (hb.mono hB.size)
  clear hb
  go_wp2_with fail
  have al := (Below.refl v1.heap.size v1).alloc (Nat.le_refl _) (.cells #[.bool bia, .slice aia kia cia, .bool bib, .slice aib kib cib, .bool bic, .slice aic kic cic] 26)
  replace ia := ia.below al (Nat.le_refl _)
  replace xia := xia.on al
  replace ib := ib.below al (Nat.le_refl _)
  replace xib := xib.on al
  replace ic := ic.below al (Nat.le_refl _)
  replace xic := xic.on al
  replace hB := hB.alloc hB.size (.cells #[.bool bia, .slice aia kia cia, .bool bib, .slice aib kib cib, .bool bic, .slice aic kic cic] 26)
  clear al
  have HU := usable3_num' 200 v1.heap.size (by decide) a b c _ (by simp) (by simp) (by simp) (by simp) (by simp) (by simp) ia ib ic (Sz.len2 sa) (Sz.len2 sb) (Sz.len2 sc)
  refine HU.mono ?_
  clear HU
  rintro e v2 ⟨rfl, hb⟩
  clear pia pia'
  replace ia := ia.below hb (Nat.le_refl _)
  replace xia := xia.on hb
  obtain ⟨pia, pia'⟩ := xia.cells
  clear pib pib'
  replace ib := ib.below hb (Nat.le_refl _)
  replace xib := xib.on hb
  obtain ⟨pib, pib'⟩ := xib.cells
  clear pic pic'
  replace ic := ic.below hb (Nat.le_refl _)
  replace xic := xic.on hb
  obtain ⟨pic, pic'⟩ := xic.cells
  replace hB := hB.trans (hb.mono hB.size)
  clear hb
  go_wp2_with fail
  refine (HK0.out _ _ _ ia ib).mono ?_
  rintro e v3 ⟨rfl, hb⟩
  replace ia := ia.below hb (Nat.le_refl _)
  replace xia := xia.on hb; clear pia pia'; obtain ⟨pia, pia'⟩ := xia.cells
  replace ib := ib.below hb (Nat.le_refl _)
  replace xib := xib.on hb; clear pib pib'; obtain ⟨pib, pib'⟩ := xib.cells
  replace ic := ic.below hb (Nat.le_refl _)
  replace xic := xic.on hb; clear pic pic'; obtain ⟨pic, pic'⟩ := xic.cells
  replace hB := hB.trans (hb.mono hB.size)
  clear hb
  go_wp2_with fail
  have q1 : IntKind.i64.wrap 1 = 1 := by decide
  have q2 : IntKind.i64.wrap (-1) = -1 := by decide
  have q3 : IntKind.i64.wrap 0 = 0 := by decide
  have q4 : IntKind.i64.wrap (- -1) = 1 := by decide
  have q5 : IntKind.i64.wrap (-0) = 0 := by decide
  replace hB : Below w.heap.size w v3.drew := hB.drew
  replace ia : Num v3.drew _ _ := ia
  replace ib : Num v3.drew _ _ := ib
  replace ic : Num v3.drew _ _ := ic
  replace xia : Bx v3.drew _ _ _ := xia
  replace xib : Bx v3.drew _ _ _ := xib
  replace xic : Bx v3.drew _ _ _ := xic
  go_region_held3 (fun w' => w'.cell? ⟨w.heap.size, 0, none⟩ = some (.bool bia) ∧ w'.cell? ⟨w.heap.size, 1, none⟩ = some (.slice aia kia cia) ∧ w'.cell? ⟨w.heap.size + 1, 0, none⟩ = some (.bool bib) ∧ w'.cell? ⟨w.heap.size + 1, 1, none⟩ = some (.slice aib kib cib) ∧ w'.cell? ⟨w.heap.size + 1 + 1, 0, none⟩ = some (.bool bic) ∧ w'.cell? ⟨w.heap.size + 1 + 1, 1, none⟩ = some (.slice aic kic cic))
    (first | exact ⟨pia, pia', pib, pib', pic, pic'⟩ | go_keep)
    (first
    | (go_at_call 33; ((with_reducible refine (HK1.out _ _ _ ib ia).mono ?_); rintro e wn ⟨rfl, hb⟩; replace ia := ia.below hb (Nat.le_refl _); replace ib := ib.below hb (Nat.le_refl _); replace ic := ic.below hb (Nat.le_refl _); replace xia := xia.on hb; clear pia pia'; obtain ⟨pia, pia'⟩ := xia.cells; replace xib := xib.on hb; clear pib pib'; obtain ⟨pib, pib'⟩ := xib.cells; replace xic := xic.on hb; clear pic pic'; obtain ⟨pic, pic'⟩ := xic.cells; (try replace lab := lab.below hb (Nat.le_refl _)); (try replace z0 := z0.below hb (Nat.le_refl _)); (try replace gac := gac.below hb (Nat.le_refl _)); (try replace gbc := gbc.below hb (Nat.le_refl _)); replace hB := hB.trans (hb.mono hB.size); clear hb))
    | (go_at_call 35; ((with_reducible refine (HK2.out _ _ _ ia ib).mono ?_); rintro e wn ⟨rfl, hb⟩; replace ia := ia.below hb (Nat.le_refl _); replace ib := ib.below hb (Nat.le_refl _); replace ic := ic.below hb (Nat.le_refl _); replace xia := xia.on hb; clear pia pia'; obtain ⟨pia, pia'⟩ := xia.cells; replace xib := xib.on hb; clear pib pib'; obtain ⟨pib, pib'⟩ := xib.cells; replace xic := xic.on hb; clear pic pic'; obtain ⟨pic, pic'⟩ := xic.cells; (try replace lab := lab.below hb (Nat.le_refl _)); (try replace z0 := z0.below hb (Nat.le_refl _)); (try replace gac := gac.below hb (Nat.le_refl _)); (try replace gbc := gbc.below hb (Nat.le_refl _)); replace hB := hB.trans (hb.mono hB.size); clear hb))
    | (go_at_call 34; ((with_reducible refine (HK3.out _ _ _ ia ib).mono ?_); rintro e wn ⟨⟨v, rfl, hn⟩, hb⟩; obtain ⟨blab, alab, klab, clab, rfl⟩ := hn.opened; replace ia := ia.below hb (Nat.le_refl _); replace ib := ib.below hb (Nat.le_refl _); replace ic := ic.below hb (Nat.le_refl _); replace xia := xia.on hb; clear pia pia'; obtain ⟨pia, pia'⟩ := xia.cells; replace xib := xib.on hb; clear pib pib'; obtain ⟨pib, pib'⟩ := xib.cells; replace xic := xic.on hb; clear pic pic'; obtain ⟨pic, pic'⟩ := xic.cells; (try replace lab := lab.below hb (Nat.le_refl _)); (try replace z0 := z0.below hb (Nat.le_refl _)); (try replace gac := gac.below hb (Nat.le_refl _)); (try replace gbc := gbc.below hb (Nat.le_refl _)); replace hB := hB.trans (hb.mono hB.size); have lab := hn.num; clear hb hn))
    | (go_at_call 25; ((with_reducible refine (HK4.out _).mono ?_); rintro e wn ⟨⟨v, rfl, hn⟩, hb⟩; obtain ⟨bz0, az0, kz0, cz0, rfl⟩ := hn.opened; replace ia := ia.below hb (Nat.le_refl _); replace ib := ib.below hb (Nat.le_refl _); replace ic := ic.below hb (Nat.le_refl _); replace xia := xia.on hb; clear pia pia'; obtain ⟨pia, pia'⟩ := xia.cells; replace xib := xib.on hb; clear pib pib'; obtain ⟨pib, pib'⟩ := xib.cells; replace xic := xic.on hb; clear pic pic'; obtain ⟨pic, pic'⟩ := xic.cells; (try replace lab := lab.below hb (Nat.le_refl _)); (try replace z0 := z0.below hb (Nat.le_refl _)); (try replace gac := gac.below hb (Nat.le_refl _)); (try replace gbc := gbc.below hb (Nat.le_refl _)); replace hB := hB.trans (hb.mono hB.size); have z0 := hn.num; clear hb hn))
    | (go_at_call 33; ((with_reducible refine (HK5.out _ _ _ lab z0).mono ?_); rintro e wn ⟨rfl, hb⟩; replace ia := ia.below hb (Nat.le_refl _); replace ib := ib.below hb (Nat.le_refl _); replace ic := ic.below hb (Nat.le_refl _); replace xia := xia.on hb; clear pia pia'; obtain ⟨pia, pia'⟩ := xia.cells; replace xib := xib.on hb; clear pib pib'; obtain ⟨pib, pib'⟩ := xib.cells; replace xic := xic.on hb; clear pic pic'; obtain ⟨pic, pic'⟩ := xic.cells; (try replace lab := lab.below hb (Nat.le_refl _)); (try replace z0 := z0.below hb (Nat.le_refl _)); (try replace gac := gac.below hb (Nat.le_refl _)); (try replace gbc := gbc.below hb (Nat.le_refl _)); replace hB := hB.trans (hb.mono hB.size); clear hb))
    | (go_at_call 31; ((with_reducible refine (HK6.out _ _ _ ia ic).mono ?_); rintro e wn ⟨⟨v, rfl, hn⟩, hb⟩; obtain ⟨bgac, agac, kgac, cgac, rfl⟩ := hn.opened; replace ia := ia.below hb (Nat.le_refl _); replace ib := ib.below hb (Nat.le_refl _); replace ic := ic.below hb (Nat.le_refl _); replace xia := xia.on hb; clear pia pia'; obtain ⟨pia, pia'⟩ := xia.cells; replace xib := xib.on hb; clear pib pib'; obtain ⟨pib, pib'⟩ := xib.cells; replace xic := xic.on hb; clear pic pic'; obtain ⟨pic, pic'⟩ := xic.cells; (try replace lab := lab.below hb (Nat.le_refl _)); (try replace z0 := z0.below hb (Nat.le_refl _)); (try replace gac := gac.below hb (Nat.le_refl _)); (try replace gbc := gbc.below hb (Nat.le_refl _)); replace hB := hB.trans (hb.mono hB.size); have gac := hn.num; clear hb hn))
    | (go_at_call 31; ((with_reducible refine (HK7.out _ _ _ ib ic).mono ?_); rintro e wn ⟨⟨v, rfl, hn⟩, hb⟩; obtain ⟨bgbc, agbc, kgbc, cgbc, rfl⟩ := hn.opened; replace ia := ia.below hb (Nat.le_refl _); replace ib := ib.below hb (Nat.le_refl _); replace ic := ic.below hb (Nat.le_refl _); replace xia := xia.on hb; clear pia pia'; obtain ⟨pia, pia'⟩ := xia.cells; replace xib := xib.on hb; clear pib pib'; obtain ⟨pib, pib'⟩ := xib.cells; replace xic := xic.on hb; clear pic pic'; obtain ⟨pic, pic'⟩ := xic.cells; (try replace lab := lab.below hb (Nat.le_refl _)); (try replace z0 := z0.below hb (Nat.le_refl _)); (try replace gac := gac.below hb (Nat.le_refl _)); (try replace gbc := gbc.below hb (Nat.le_refl _)); replace hB := hB.trans (hb.mono hB.size); have gbc := hn.num; clear hb hn))
    | (go_at_call 33; ((with_reducible refine (HK8.out _ _ _ gac gbc).mono ?_); rintro e wn ⟨rfl, hb⟩; replace ia := ia.below hb (Nat.le_refl _); replace ib := ib.below hb (Nat.le_refl _); replace ic := ic.below hb (Nat.le_refl _); replace xia := xia.on hb; clear pia pia'; obtain ⟨pia, pia'⟩ := xia.cells; replace xib := xib.on hb; clear pib pib'; obtain ⟨pib, pib'⟩ := xib.cells; replace xic := xic.on hb; clear pic pic'; obtain ⟨pic, pic'⟩ := xic.cells; (try replace lab := lab.below hb (Nat.le_refl _)); (try replace z0 := z0.below hb (Nat.le_refl _)); (try replace gac := gac.below hb (Nat.le_refl _)); (try replace gbc := gbc.below hb (Nat.le_refl _)); replace hB := hB.trans (hb.mono hB.size); clear hb)))
  go_wp2_with fail
  obtain ⟨wcur, hcur⟩ : ∃ W : World, W = wn := ⟨_, rfl⟩
  subst hcur
  replace hB : Below w.heap.size w wcur.drew := hB.drew
  replace ia : Num wcur.drew _ _ := ia
  replace ib : Num wcur.drew _ _ := ib
  replace ic : Num wcur.drew _ _ := ic
  replace xia : Bx wcur.drew _ _ _ := xia
  replace xib : Bx wcur.drew _ _ _ := xib
  replace xic : Bx wcur.drew _ _ _ := xic
  go_region_held3 (fun w' => w'.cell? ⟨w.heap.size, 0, none⟩ = some (.bool bia) ∧ w'.cell? ⟨w.heap.size, 1, none⟩ = some (.slice aia kia cia) ∧ w'.cell? ⟨w.heap.size + 1, 0, none⟩ = some (.bool bib) ∧ w'.cell? ⟨w.heap.size + 1, 1, none⟩ = some (.slice aib kib cib) ∧ w'.cell? ⟨w.heap.size + 1 + 1, 0, none⟩ = some (.bool bic) ∧ w'.cell? ⟨w.heap.size + 1 + 1, 1, none⟩ = some (.slice aic kic cic))
    (first | exact ⟨pia, pia', pib, pib', pic, pic'⟩ | go_keep)
    (first
    | (go_at_call 25; ((with_reducible refine (HK9.out _).mono ?_); rintro e wn ⟨⟨v, rfl, hn⟩, hb⟩; obtain ⟨bm1, am1, km1, cm1, rfl⟩ := hn.opened; replace ia := ia.below hb (Nat.le_refl _); replace ib := ib.below hb (Nat.le_refl _); replace ic := ic.below hb (Nat.le_refl _); replace xia := xia.on hb; clear pia pia'; obtain ⟨pia, pia'⟩ := xia.cells; replace xib := xib.on hb; clear pib pib'; obtain ⟨pib, pib'⟩ := xib.cells; replace xic := xic.on hb; clear pic pic'; obtain ⟨pic, pic'⟩ := xic.cells; (try replace m1 := m1.below hb (Nat.le_refl _)); (try replace pa1 := pa1.below hb (Nat.le_refl _)); (try replace pb1 := pb1.below hb (Nat.le_refl _)); replace hB := hB.trans (hb.mono hB.size); have m1 := hn.num; clear hb hn))
    | (go_at_call 32; ((with_reducible refine (HK10.out _ _ _ ia m1).mono ?_); rintro e wn ⟨⟨v, rfl, hn⟩, hb⟩; obtain ⟨bpa1, apa1, kpa1, cpa1, rfl⟩ := hn.opened; replace ia := ia.below hb (Nat.le_refl _); replace ib := ib.below hb (Nat.le_refl _); replace ic := ic.below hb (Nat.le_refl _); replace xia := xia.on hb; clear pia pia'; obtain ⟨pia, pia'⟩ := xia.cells; replace xib := xib.on hb; clear pib pib'; obtain ⟨pib, pib'⟩ := xib.cells; replace xic := xic.on hb; clear pic pic'; obtain ⟨pic, pic'⟩ := xic.cells; (try replace m1 := m1.below hb (Nat.le_refl _)); (try replace pa1 := pa1.below hb (Nat.le_refl _)); (try replace pb1 := pb1.below hb (Nat.le_refl _)); replace hB := hB.trans (hb.mono hB.size); have pa1 := hn.num; clear hb hn))
    | (go_at_call 32; ((with_reducible refine (HK11.out _ _ _ ib m1).mono ?_); rintro e wn ⟨⟨v, rfl, hn⟩, hb⟩; obtain ⟨bpb1, apb1, kpb1, cpb1, rfl⟩ := hn.opened; replace ia := ia.below hb (Nat.le_refl _); replace ib := ib.below hb (Nat.le_refl _); replace ic := ic.below hb (Nat.le_refl _); replace xia := xia.on hb; clear pia pia'; obtain ⟨pia, pia'⟩ := xia.cells; replace xib := xib.on hb; clear pib pib'; obtain ⟨pib, pib'⟩ := xib.cells; replace xic := xic.on hb; clear pic pic'; obtain ⟨pic, pic'⟩ := xic.cells; (try replace m1 := m1.below hb (Nat.le_refl _)); (try replace pa1 := pa1.below hb (Nat.le_refl _)); (try replace pb1 := pb1.below hb (Nat.le_refl _)); replace hB := hB.trans (hb.mono hB.size); have pb1 := hn.num; clear hb hn))
    | (go_at_call 33; ((with_reducible refine (HK12.out _ _ _ pa1 pb1).mono ?_); rintro e wn ⟨rfl, hb⟩; replace ia := ia.below hb (Nat.le_refl _); replace ib := ib.below hb (Nat.le_refl _); replace ic := ic.below hb (Nat.le_refl _); replace xia := xia.on hb; clear pia pia'; obtain ⟨pia, pia'⟩ := xia.cells; replace xib := xib.on hb; clear pib pib'; obtain ⟨pib, pib'⟩ := xib.cells; replace xic := xic.on hb; clear pic pic'; obtain ⟨pic, pic'⟩ := xic.cells; (try replace m1 := m1.below hb (Nat.le_refl _)); (try replace pa1 := pa1.below hb (Nat.le_refl _)); (try replace pb1 := pb1.below hb (Nat.le_refl _)); replace hB := hB.trans (hb.mono hB.size); clear hb)))
  rcases Int.lt_trichotomy b c with hbc | hbc | hbc
  · have hab := HAB.out
    have HP := Lib.hid (fun vx vy W (h : Num W vx b) (g : Num W vy c) => Cmp_lit vx vy b c (-1) (by unfold cmpI; split <;> (try split) <;> omega) (Sz.len sb (by decide)) (Sz.len sc (by decide)) W h g)
    clear hbc hab
    go_wp2_with fail
    refine (HP.out _ _ _ ib ic).mono ?_
    rintro e v4 ⟨rfl, hb⟩
    replace ia := ia.below hb (Nat.le_refl _)
    replace xia := xia.on hb; clear pia pia'; obtain ⟨pia, pia'⟩ := xia.cells
    replace ib := ib.below hb (Nat.le_refl _)
    replace xib := xib.on hb; clear pib pib'; obtain ⟨pib, pib'⟩ := xib.cells
    replace ic := ic.below hb (Nat.le_refl _)
    replace xic := xic.on hb; clear pic pic'; obtain ⟨pic, pic'⟩ := xic.cells
    replace hB := hB.trans (hb.mono hB.size)
    clear hb
    go_wp2
    go_ret
    exact ⟨rfl, hB⟩
  · have hab := HAB.out
    have HP := Lib.hid (fun vx vy W (h : Num W vx b) (g : Num W vy c) => Cmp_lit vx vy b c (0) (by unfold cmpI; split <;> (try split) <;> omega) (Sz.len sb (by decide)) (Sz.len sc (by decide)) W h g)
    clear hbc hab
    go_wp2_with fail
    refine (HP.out _ _ _ ib ic).mono ?_
    rintro e v4 ⟨rfl, hb⟩
    replace ia := ia.below hb (Nat.le_refl _)
    replace xia := xia.on hb; clear pia pia'; obtain ⟨pia, pia'⟩ := xia.cells
    replace ib := ib.below hb (Nat.le_refl _)
    replace xib := xib.on hb; clear pib pib'; obtain ⟨pib, pib'⟩ := xib.cells
    replace ic := ic.below hb (Nat.le_refl _)
    replace xic := xic.on hb; clear pic pic'; obtain ⟨pic, pic'⟩ := xic.cells
    replace hB := hB.trans (hb.mono hB.size)
    clear hb
    go_wp2
    go_ret
    exact ⟨rfl, hB⟩
  · have hab := HAB.out
    have HP := Lib.hid (fun vx vy W (h : Num W vx b) (g : Num W vy c) => Cmp_lit vx vy b c (1) (by unfold cmpI; split <;> (try split) <;> omega) (Sz.len sb (by decide)) (Sz.len sc (by decide)) W h g)
    have HQ := Lib.hid (fun vx vy W (h : Num W vx a) (g : Num W vy c) => Cmp_lit vx vy a c (1) (by unfold cmpI; split <;> (try split) <;> omega) (Sz.len sa (by decide)) (Sz.len sc (by decide)) W h g)
    clear hbc hab
    go_wp2_with fail
    refine (HP.out _ _ _ ib ic).mono ?_
    rintro e v4 ⟨rfl, hb⟩
    replace ia := ia.below hb (Nat.le_refl _)
    replace xia := xia.on hb; clear pia pia'; obtain ⟨pia, pia'⟩ := xia.cells
    replace ib := ib.below hb (Nat.le_refl _)
    replace xib := xib.on hb; clear pib pib'; obtain ⟨pib, pib'⟩ := xib.cells
    replace ic := ic.below hb (Nat.le_refl _)
    replace xic := xic.on hb; clear pic pic'; obtain ⟨pic, pic'⟩ := xic.cells
    replace hB := hB.trans (hb.mono hB.size)
    clear hb
    go_wp2_with fail
    refine (HQ.out _ _ _ ia ic).mono ?_
    rintro e v5 ⟨rfl, hb⟩
    replace hB := hB.trans (hb.mono hB.size)
    go_wp2
    go_ret
    exact ⟨rfl, hB⟩

set_option maxRecDepth 100000 in
set_option maxHeartbeats 64000000 in
theorem WholeOrder_core (a b c : Int) (sa : Sz 200 a) (sb : Sz 200 b) (sc : Sz 200 c) (bia : Bool) (aia : Option Addr) (kia cia : Nat) (bib : Bool) (aib : Option Addr) (kib cib : Nat) (bic : Bool) (aic : Option Addr) (kic cic : Nat) (w : World) (ia : Num w (.agg #[.bool bia, .slice aia kia cia]) a) (ib : Num w (.agg #[.bool bib, .slice aib kib cib]) b) (ic : Num w (.agg #[.bool bic, .slice aic kic cic]) c) :
    Calls Try.prog 7 #[.agg #[.bool bia, .slice aia kia cia], .agg #[.bool bib, .slice aib kib cib], .agg #[.bool bic, .slice aic kic cic]] w fun e w' => e = .returned (.bool true) ∧ Below w.heap.size w w' := by
  rcases Int.lt_trichotomy a b with h | h | h
  · exact WholeOrder_less a b c sa sb sc bia aia kia cia bib aib kib cib bic aic kic cic h w ia ib ic
  · exact WholeOrder_same a b c sa sb sc bia aia kia cia bib aib kib cib bic aic kic cic h w ia ib ic
  · exact WholeOrder_more a b c sa sb sc bia aia kia cia bib aib kib cib bic aic kic cic h w ia ib ic

end Go.Proofs.Ytodmbklednehbaa
