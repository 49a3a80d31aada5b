/-
'WholeGcds'.
-/
import Derived.Test.YtodmbklednehbaaDivided
import Derived.Outline
import Derived.Tactics2
import Derived.WalkKit
import Derived.Deep.RegionHeld3
import Derived.Deep.DeepCutAuto
import Derived.KernelRfl
namespace Go.Proofs.Ytodmbklednehbaa
open Go.RowKit Wh

set_option maxRecDepth 100000 in
set_option maxHeartbeats 64000000 in
theorem WholeGcds_core (a b c : Int) (sa : Sz 40 a) (sb : Sz 40 b) (sc : Sz 40 c) (bia : Bool) (aia : Option Addr) (kia cia : Nat) (bib : Bool) (aib : Option Addr) (kib cib : Nat) (bic : Bool) (aic : Option Addr) (kic cic : Nat) (w : World) (ia : Num w (.agg #[.bool bia, .slice aia kia cia]) a) (ib : Num w (.agg #[.bool bib, .slice aib kib cib]) b) (ic : Num w (.agg #[.bool bic, .slice aic kic cic]) c) :
    Calls Try.prog 8 #[.agg #[.bool bia, .slice aia kia cia], .agg #[.bool bib, .slice aib kib cib], .agg #[.bool bic, .slice aic kic cic]] w fun e w' => e = .returned (.bool true) ∧ Below w.heap.size w w' := by
  have hB := ((((Below.refl w.heap.size w).alloc (by simp <;> omega) (.cells #[.bool bia, .slice aia kia cia] 26)).alloc (by simp <;> omega) (.cells #[.bool bib, .slice aib kib cib] 26)).alloc (by simp <;> omega) (.cells #[.bool bic, .slice aic kic cic] 26))
  have xia := (((Bx.new w (.bool bia) (.slice aia kia cia)).alloc (.cells #[.bool bib, .slice aib kib cib] 26)).alloc (.cells #[.bool bic, .slice aic kic cic] 26))
  have xib := ((Bx.new (w.alloc (.cells #[.bool bia, .slice aia kia cia] 26)) (.bool bib) (.slice aib kib cib)).alloc (.cells #[.bool bic, .slice aic kic cic] 26))
  simp only [World.size_alloc] at xib
  have xic := (Bx.new ((w.alloc (.cells #[.bool bia, .slice aia kia cia] 26)).alloc (.cells #[.bool bib, .slice aib kib cib] 26)) (.bool bic) (.slice aic kic cic))
  simp only [World.size_alloc] at xic
  replace ia := ia.below hB (Nat.le_refl _)
  replace ib := ib.below hB (Nat.le_refl _)
  replace ic := ic.below hB (Nat.le_refl _)
  go_enter Try.func8, Try.ntmps8
  go_wp2_with fail
  refine (awake_any _).mono ?_
  rintro e v1 ⟨rfl, hb⟩
  replace ia := ia.below hb (Nat.le_refl _)
  replace xia := xia.on hb
  obtain ⟨pia, pia'⟩ := xia.cells
  replace ib := ib.below hb (Nat.le_refl _)
  replace xib := xib.on hb
  obtain ⟨pib, pib'⟩ := xib.cells
  replace ic := ic.below hb (Nat.le_refl _)
  replace xic := xic.on hb
  obtain ⟨pic, pic'⟩ := xic.cells
  replace hB := hB.trans (hb.mono hB.size)
  clear hb
  go_wp2_with fail
  have al := (Below.refl v1.heap.size v1).alloc (Nat.le_refl _) (.cells #[.bool bia, .slice aia kia cia, .bool bib, .slice aib kib cib, .bool bic, .slice aic kic cic] 26)
  replace ia := ia.below al (Nat.le_refl _)
  replace xia := xia.on al
  replace ib := ib.below al (Nat.le_refl _)
  replace xib := xib.on al
  replace ic := ic.below al (Nat.le_refl _)
  replace xic := xic.on al
  replace hB := hB.alloc hB.size (.cells #[.bool bia, .slice aia kia cia, .bool bib, .slice aib kib cib, .bool bic, .slice aic kic cic] 26)
  clear al
  have HU := usable3_num' 40 v1.heap.size (by decide) a b c _ (by simp) (by simp) (by simp) (by simp) (by simp) (by simp) ia ib ic (Sz.len2 sa) (Sz.len2 sb) (Sz.len2 sc)
  refine HU.mono ?_
  clear HU
  rintro e v2 ⟨rfl, hb⟩
  clear pia pia'
  replace ia := ia.below hb (Nat.le_refl _)
  replace xia := xia.on hb
  obtain ⟨pia, pia'⟩ := xia.cells
  clear pib pib'
  replace ib := ib.below hb (Nat.le_refl _)
  replace xib := xib.on hb
  obtain ⟨pib, pib'⟩ := xib.cells
  clear pic pic'
  replace ic := ic.below hb (Nat.le_refl _)
  replace xic := xic.on hb
  obtain ⟨pic, pic'⟩ := xic.cells
  replace hB := hB.trans (hb.mono hB.size)
  clear hb
  go_wp2_with fail
  obtain ⟨z, hz⟩ : ∃ z : Int, z = ((Int.gcd a b : Nat) : Int) := ⟨_, rfl⟩
  have sz : Sz 40 z := by rw [hz]; exact gcd_sz sa sb
  have sac : Sz 80 (a * c) := Sz.mul sa sc
  have sbc : Sz 80 (b * c) := Sz.mul sb sc
  have sbac : Sz 81 (b + a * c) := Sz.add sb sac
  have sca : Sz 40 (c.natAbs : Int) := abs_sz sc
  have sgc : Sz 80 (z * (c.natAbs : Int)) := Sz.mul sz sca
  refine (Gcd_known _ _ a b z hz.symm (Sz.len sa (by decide)) (Sz.len sb (by decide)) (Sz.len sz (by decide)) _ ia ib).mono ?_
  rintro e v3 ⟨⟨v, rfl, hn⟩, hb⟩
  obtain ⟨bgg, agg, kgg, cgg, rfl⟩ := hn.opened
  obtain rfl : bgg = false := by rw [(neg_num hn.num).1]; exact decide_eq_false (by omega)
  clear pia pia' pib pib' pic pic'
  replace ia := ia.below hb (Nat.le_refl _)
  replace ib := ib.below hb (Nat.le_refl _)
  replace ic := ic.below hb (Nat.le_refl _)
  replace xia := xia.on hb
  replace xib := xib.on hb
  replace xic := xic.on hb
  replace hB := hB.trans (hb.mono hB.size)
  clear hb
  have gg := hn.num
  clear hn
  have hv3 : w.heap.size + 1 + 1 < v3.heap.size := xic.lt
  have al := (Below.refl v3.heap.size v3).alloc (Nat.le_refl _) (.cells #[.bool false, .slice agg kgg cgg] 26)
  have xg := Bx.new v3 (.bool false) (.slice agg kgg cgg)
  replace ia := ia.below al (Nat.le_refl _)
  replace ib := ib.below al (Nat.le_refl _)
  replace ic := ic.below al (Nat.le_refl _)
  replace gg := gg.below al (Nat.le_refl _)
  replace xia := xia.on al
  replace xib := xib.on al
  replace xic := xic.on al
  replace hB := hB.alloc hB.size (.cells #[.bool false, .slice agg kgg cgg] 26)
  clear al
  obtain ⟨pia, pia'⟩ := xia.cells
  obtain ⟨pib, pib'⟩ := xib.cells
  obtain ⟨pic, pic'⟩ := xic.cells
  obtain ⟨pg, pg'⟩ := xg.cells
  go_wp2_with fail
  refine (Valid_num _ z (Sz.len sz (by decide)) _ gg).mono ?_
  rintro e v4 ⟨rfl, hb⟩
  replace ia := ia.below hb (Nat.le_refl _)
  replace ib := ib.below hb (Nat.le_refl _)
  replace ic := ic.below hb (Nat.le_refl _)
  replace gg := gg.below hb (Nat.le_refl _)
  replace xia := xia.on hb; clear pia pia'; obtain ⟨pia, pia'⟩ := xia.cells
  replace xib := xib.on hb; clear pib pib'; obtain ⟨pib, pib'⟩ := xib.cells
  replace xic := xic.on hb; clear pic pic'; obtain ⟨pic, pic'⟩ := xic.cells
  replace xg := xg.on hb; clear pg pg'; obtain ⟨pg, pg'⟩ := xg.cells
  replace hB := hB.trans (hb.mono hB.size)
  clear hb
  have HP1 := Lib.hid (fun vx vy W (h : Num W vx (a)) (g : Num W vy (c)) => law_product_any vx vy (a) (c) (a * c) rfl (Sz.len sa (by decide)) (Sz.len sc (by decide)) (Sz.len sac (by decide)) W h g)
  have HS1 := Lib.hid (fun vx vy W (h : Num W vx (b)) (g : Num W vy (a * c)) => law_sum_any vx vy (b) (a * c) (b + a * c) rfl (Sz.len sb (by decide)) (Sz.len sac (by decide)) (Sz.len sbac (by decide)) W h g)
  have HG8 := Lib.hid (fun vx vy W (h : Num W vx (b + a * c)) (g : Num W vy (a)) => Gcd_known vx vy (b + a * c) (a) (z) (by rw [gcd_shift, hz]) (Sz.len sbac (by decide)) (Sz.len sa (by decide)) (Sz.len sz (by decide)) W h g)
  have HP2 := Lib.hid (fun vx vy W (h : Num W vx (b)) (g : Num W vy (c)) => law_product_any vx vy (b) (c) (b * c) rfl (Sz.len sb (by decide)) (Sz.len sc (by decide)) (Sz.len sbc (by decide)) W h g)
  have HG9 := Lib.hid (fun vx vy W (h : Num W vx (a * c)) (g : Num W vy (b * c)) => Gcd_known vx vy (a * c) (b * c) (z * (c.natAbs : Int)) (by rw [gcd_scale, hz]) (Sz.len sac (by decide)) (Sz.len sbc (by decide)) (Sz.len sgc (by decide)) W h g)
  have HE9 := Lib.hid (fun vx vy W (h : Num W vx (z)) (g : Num W vy (z)) => equal_any vx vy (z) (Sz.len sz (by decide)) W h g)
  have HPc := Lib.hid (fun vx vy W (h : Num W vx (z)) (g : Num W vy ((c.natAbs : Int))) => law_product_any vx vy (z) ((c.natAbs : Int)) (z * (c.natAbs : Int)) rfl (Sz.len sz (by decide)) (Sz.len sca (by decide)) (Sz.len sgc (by decide)) W h g)
  have HE11 := Lib.hid (fun vx vy W (h : Num W vx (z * (c.natAbs : Int))) (g : Num W vy (z * (c.natAbs : Int))) => equal_any vx vy (z * (c.natAbs : Int)) (Sz.len sgc (by decide)) W h g)
  replace hz := Lib.hid hz
  go_upto_region 8 with fail
  go_cut [9, 10] (fun s9 s10 wx => s10 = .int .i64 0 ∧ ∃ (B9 : Nat) (b9 : Bool) (a9 : Option Addr) (k9 c9 : Nat), s9 = .pointer (some ⟨B9, 0, none⟩) ∧ Bx wx B9 (.bool b9) (.slice a9 k9 c9) ∧ Num wx (.agg #[.bool b9, .slice a9 k9 c9]) (z) ∧ Below v4.heap.size v4 wx)
  case first =>
    replace hB : Below v4.heap.size v4 v4.drew := (Below.refl v4.heap.size v4).drew
    replace ia : Num v4.drew _ _ := ia
    replace ib : Num v4.drew _ _ := ib
    replace ic : Num v4.drew _ _ := ic
    replace xia : Bx v4.drew _ _ _ := xia
    replace xib : Bx v4.drew _ _ _ := xib
    replace xic : Bx v4.drew _ _ _ := xic
    clear gg xg pg pg'
    have nc0 : v4.heap.size ≠ w.heap.size := (by have := xia.lt; have := xib.lt; have := xic.lt; simp only [World.size_drew] at *; omega)
    have nc1 : v4.heap.size ≠ w.heap.size + 1 := (by have := xia.lt; have := xib.lt; have := xic.lt; simp only [World.size_drew] at *; omega)
    have nc2 : v4.heap.size ≠ w.heap.size + 1 + 1 := (by have := xia.lt; have := xib.lt; have := xic.lt; simp only [World.size_drew] at *; omega)
    have A1D : Below v4.drew.heap.size v4.drew ((v4.alloc (.cells #[.bool false, .slice none 0 0] 26)).drew) := (Below.refl v4.drew.heap.size v4.drew).alloc (Nat.le_refl _) (.cells #[.bool false, .slice none 0 0] 26)
    have Z1D : Bx ((v4.alloc (.cells #[.bool false, .slice none 0 0] 26)).drew) v4.heap.size (.bool false) (.slice none 0 0) := Bx.new v4 (.bool false) (.slice none 0 0)
    have A1E : Below v4.drew.heap.size v4.drew (v4.drew.alloc (.cells #[.bool false, .slice none 0 0] 26)) := (Below.refl v4.drew.heap.size v4.drew).alloc (Nat.le_refl _) (.cells #[.bool false, .slice none 0 0] 26)
    have Z1E : Bx (v4.drew.alloc (.cells #[.bool false, .slice none 0 0] 26)) v4.heap.size (.bool false) (.slice none 0 0) := Bx.new v4 (.bool false) (.slice none 0 0)
    go_region_held3 (fun w' => w'.cell? ⟨w.heap.size, 0, none⟩ = some (.bool bia) ∧ w'.cell? ⟨w.heap.size, 1, none⟩ = some (.slice aia kia cia) ∧ w'.cell? ⟨w.heap.size + 1, 0, none⟩ = some (.bool bib) ∧ w'.cell? ⟨w.heap.size + 1, 1, none⟩ = some (.slice aib kib cib) ∧ w'.cell? ⟨w.heap.size + 1 + 1, 0, none⟩ = some (.bool bic) ∧ w'.cell? ⟨w.heap.size + 1 + 1, 1, none⟩ = some (.slice aic kic cic))
      (first | exact ⟨pia, pia', pib, pib', pic, pic'⟩ | go_keep)
      (first
        | (go_at_call 32; ((with_reducible refine (HP1.out _ _ _ ia ic).mono ?_); rintro e wn ⟨⟨v, rfl, hn⟩, hb⟩; obtain ⟨bm1, am1, km1, cm1, rfl⟩ := hn.opened; have hX := hb; replace ia := ia.below hX (Nat.le_refl _); replace ib := ib.below hX (Nat.le_refl _); replace ic := ic.below hX (Nat.le_refl _); replace xia := xia.on hX; clear pia pia'; obtain ⟨pia, pia'⟩ := xia.cells; replace xib := xib.on hX; clear pib pib'; obtain ⟨pib, pib'⟩ := xib.cells; replace xic := xic.on hX; clear pic pic'; obtain ⟨pic, pic'⟩ := xic.cells; replace hB := hB.trans (hX.mono hB.size); have nn0 : wn.heap.size ≠ w.heap.size := (by have := xia.lt; have := xib.lt; have := xic.lt; simp only [World.size_drew] at *; omega); have nn1 : wn.heap.size ≠ w.heap.size + 1 := (by have := xia.lt; have := xib.lt; have := xic.lt; simp only [World.size_drew] at *; omega); have nn2 : wn.heap.size ≠ w.heap.size + 1 + 1 := (by have := xia.lt; have := xib.lt; have := xic.lt; simp only [World.size_drew] at *; omega); have lwn : v4.heap.size ≤ wn.heap.size := hB.size; have m1 := hn.num; clear hb hX hn))
        | (go_at_call 32; ((with_reducible refine (HP1.out _ _ _ (ia.below A1D (Nat.le_refl _)) (ic.below A1D (Nat.le_refl _))).mono ?_); rintro e wn ⟨⟨v, rfl, hn⟩, hb⟩; obtain ⟨bm1, am1, km1, cm1, rfl⟩ := hn.opened; have zb := Z1D.on hb; have lzb : v4.heap.size ≤ v4.heap.size := Nat.le_refl _; have hX := then_below A1D hb; replace ia := ia.below hX (Nat.le_refl _); replace ib := ib.below hX (Nat.le_refl _); replace ic := ic.below hX (Nat.le_refl _); replace xia := xia.on hX; clear pia pia'; obtain ⟨pia, pia'⟩ := xia.cells; replace xib := xib.on hX; clear pib pib'; obtain ⟨pib, pib'⟩ := xib.cells; replace xic := xic.on hX; clear pic pic'; obtain ⟨pic, pic'⟩ := xic.cells; replace hB := hB.trans (hX.mono hB.size); have nn0 : wn.heap.size ≠ w.heap.size := (by have := xia.lt; have := xib.lt; have := xic.lt; simp only [World.size_drew] at *; omega); have nn1 : wn.heap.size ≠ w.heap.size + 1 := (by have := xia.lt; have := xib.lt; have := xic.lt; simp only [World.size_drew] at *; omega); have nn2 : wn.heap.size ≠ w.heap.size + 1 + 1 := (by have := xia.lt; have := xib.lt; have := xic.lt; simp only [World.size_drew] at *; omega); have lwn : v4.heap.size ≤ wn.heap.size := hB.size; have m1 := hn.num; clear hb hX hn))
        | (go_at_call 32; ((with_reducible refine (HP1.out _ _ _ (ia.below A1E (Nat.le_refl _)) (ic.below A1E (Nat.le_refl _))).mono ?_); rintro e wn ⟨⟨v, rfl, hn⟩, hb⟩; obtain ⟨bm1, am1, km1, cm1, rfl⟩ := hn.opened; have zb := Z1E.on hb; have lzb : v4.heap.size ≤ v4.heap.size := Nat.le_refl _; have hX := then_below A1E hb; replace ia := ia.below hX (Nat.le_refl _); replace ib := ib.below hX (Nat.le_refl _); replace ic := ic.below hX (Nat.le_refl _); replace xia := xia.on hX; clear pia pia'; obtain ⟨pia, pia'⟩ := xia.cells; replace xib := xib.on hX; clear pib pib'; obtain ⟨pib, pib'⟩ := xib.cells; replace xic := xic.on hX; clear pic pic'; obtain ⟨pic, pic'⟩ := xic.cells; replace hB := hB.trans (hX.mono hB.size); have nn0 : wn.heap.size ≠ w.heap.size := (by have := xia.lt; have := xib.lt; have := xic.lt; simp only [World.size_drew] at *; omega); have nn1 : wn.heap.size ≠ w.heap.size + 1 := (by have := xia.lt; have := xib.lt; have := xic.lt; simp only [World.size_drew] at *; omega); have nn2 : wn.heap.size ≠ w.heap.size + 1 + 1 := (by have := xia.lt; have := xib.lt; have := xic.lt; simp only [World.size_drew] at *; omega); have lwn : v4.heap.size ≤ wn.heap.size := hB.size; have m1 := hn.num; clear hb hX hn))
        | (go_at_call 31; ((with_reducible refine (HS1.out _ _ _ ib m1).mono ?_); rintro e wm ⟨⟨v, rfl, hn⟩, hb⟩; obtain ⟨bm2, am2, km2, cm2, rfl⟩ := hn.opened; have hX := hb; replace ia := ia.below hX (Nat.le_refl _); replace ib := ib.below hX (Nat.le_refl _); replace ic := ic.below hX (Nat.le_refl _); replace xia := xia.on hX; clear pia pia'; obtain ⟨pia, pia'⟩ := xia.cells; replace xib := xib.on hX; clear pib pib'; obtain ⟨pib, pib'⟩ := xib.cells; replace xic := xic.on hX; clear pic pic'; obtain ⟨pic, pic'⟩ := xic.cells; (try replace m1 := m1.below hX (Nat.le_refl _)); replace hB := hB.trans (hX.mono hB.size); (try replace zb := zb.on hX); have nm0 : wm.heap.size ≠ w.heap.size := (by have := xia.lt; have := xib.lt; have := xic.lt; simp only [World.size_drew] at *; omega); have nm1 : wm.heap.size ≠ w.heap.size + 1 := (by have := xia.lt; have := xib.lt; have := xic.lt; simp only [World.size_drew] at *; omega); have nm2 : wm.heap.size ≠ w.heap.size + 1 + 1 := (by have := xia.lt; have := xib.lt; have := xic.lt; simp only [World.size_drew] at *; omega); have lwm : v4.heap.size ≤ wm.heap.size := hB.size; have m2 := hn.num; clear hb hX hn))
        | (go_at_call 31; ((with_reducible refine (HS1.out _ _ _ (ib.below ((Below.refl wn.heap.size wn).alloc (Nat.le_refl _) (.cells #[.bool false, .slice none 0 0] 26)) (Nat.le_refl _)) (m1.below ((Below.refl wn.heap.size wn).alloc (Nat.le_refl _) (.cells #[.bool false, .slice none 0 0] 26)) (Nat.le_refl _))).mono ?_); rintro e wm ⟨⟨v, rfl, hn⟩, hb⟩; obtain ⟨bm2, am2, km2, cm2, rfl⟩ := hn.opened; have zb := (Bx.new wn (.bool false) (.slice none 0 0)).on hb; have lzb : v4.heap.size ≤ wn.heap.size := lwn; have hX := then_below ((Below.refl wn.heap.size wn).alloc (Nat.le_refl _) (.cells #[.bool false, .slice none 0 0] 26)) hb; replace ia := ia.below hX (Nat.le_refl _); replace ib := ib.below hX (Nat.le_refl _); replace ic := ic.below hX (Nat.le_refl _); replace xia := xia.on hX; clear pia pia'; obtain ⟨pia, pia'⟩ := xia.cells; replace xib := xib.on hX; clear pib pib'; obtain ⟨pib, pib'⟩ := xib.cells; replace xic := xic.on hX; clear pic pic'; obtain ⟨pic, pic'⟩ := xic.cells; (try replace m1 := m1.below hX (Nat.le_refl _)); replace hB := hB.trans (hX.mono hB.size); have nm0 : wm.heap.size ≠ w.heap.size := (by have := xia.lt; have := xib.lt; have := xic.lt; simp only [World.size_drew] at *; omega); have nm1 : wm.heap.size ≠ w.heap.size + 1 := (by have := xia.lt; have := xib.lt; have := xic.lt; simp only [World.size_drew] at *; omega); have nm2 : wm.heap.size ≠ w.heap.size + 1 + 1 := (by have := xia.lt; have := xib.lt; have := xic.lt; simp only [World.size_drew] at *; omega); have lwm : v4.heap.size ≤ wm.heap.size := hB.size; have m2 := hn.num; clear hb hX hn))
        | (go_at_call 36; ((with_reducible refine (HG8.out _ _ _ m2 ia).mono ?_); rintro e wq ⟨⟨v, rfl, hn⟩, hb⟩; obtain ⟨bgu, agu, kgu, cgu, rfl⟩ := hn.opened; have hX := hb; replace ia := ia.below hX (Nat.le_refl _); replace ib := ib.below hX (Nat.le_refl _); replace ic := ic.below hX (Nat.le_refl _); replace xia := xia.on hX; clear pia pia'; obtain ⟨pia, pia'⟩ := xia.cells; replace xib := xib.on hX; clear pib pib'; obtain ⟨pib, pib'⟩ := xib.cells; replace xic := xic.on hX; clear pic pic'; obtain ⟨pic, pic'⟩ := xic.cells; replace hB := hB.trans (hX.mono hB.size); (try replace zb := zb.on hX); (try (have lz := zb.lt; obtain ⟨cz, cz'⟩ := zb.cells; obtain ⟨fz, fz'⟩ := zb.free)); have gu := hn.num; clear hb hX hn m1 m2))
        | (go_at_call 36; ((with_reducible refine (HG8.out _ _ _ (m2.below ((Below.refl wm.heap.size wm).alloc (Nat.le_refl _) (.cells #[.bool false, .slice none 0 0] 26)) (Nat.le_refl _)) (ia.below ((Below.refl wm.heap.size wm).alloc (Nat.le_refl _) (.cells #[.bool false, .slice none 0 0] 26)) (Nat.le_refl _))).mono ?_); rintro e wq ⟨⟨v, rfl, hn⟩, hb⟩; obtain ⟨bgu, agu, kgu, cgu, rfl⟩ := hn.opened; have zb := (Bx.new wm (.bool false) (.slice none 0 0)).on hb; have lzb : v4.heap.size ≤ wm.heap.size := lwm; have hX := then_below ((Below.refl wm.heap.size wm).alloc (Nat.le_refl _) (.cells #[.bool false, .slice none 0 0] 26)) hb; replace ia := ia.below hX (Nat.le_refl _); replace ib := ib.below hX (Nat.le_refl _); replace ic := ic.below hX (Nat.le_refl _); replace xia := xia.on hX; clear pia pia'; obtain ⟨pia, pia'⟩ := xia.cells; replace xib := xib.on hX; clear pib pib'; obtain ⟨pib, pib'⟩ := xib.cells; replace xic := xic.on hX; clear pic pic'; obtain ⟨pic, pic'⟩ := xic.cells; replace hB := hB.trans (hX.mono hB.size); (try (have lz := zb.lt; obtain ⟨cz, cz'⟩ := zb.cells; obtain ⟨fz, fz'⟩ := zb.free)); have gu := hn.num; clear hb hX hn m1 m2)))
    all_goals (go_wp2_with fail; go_meet)
    all_goals first
      | (obtain ⟨e1, e2, e3⟩ := one_new hB hB.size (.bool bgu) (.slice agu kgu cgu) gu; exact ⟨rfl, _, _, _, _, _, rfl, e1, e2, e3⟩)
      | (obtain ⟨e1, e2, e3⟩ := one_old hB lzb zb (.bool bgu) (.slice agu kgu cgu) gu; exact ⟨rfl, _, _, _, _, _, rfl, e1, e2, e3⟩)
  case rest =>
    obtain ⟨rfl, B9, b9, a9, k9, c9, rfl, x9, g9, hb⟩ := hcut
    replace ia := ia.below hb (Nat.le_refl _)
    replace ib := ib.below hb (Nat.le_refl _)
    replace ic := ic.below hb (Nat.le_refl _)
    replace gg := gg.below hb (Nat.le_refl _)
    replace xia := xia.on hb; clear pia pia'; obtain ⟨pia, pia'⟩ := xia.cells
    replace xib := xib.on hb; clear pib pib'; obtain ⟨pib, pib'⟩ := xib.cells
    replace xic := xic.on hb; clear pic pic'; obtain ⟨pic, pic'⟩ := xic.cells
    replace xg := xg.on hb; clear pg pg'; obtain ⟨pg, pg'⟩ := xg.cells
    replace hB := hB.trans (hb.mono hB.size)
    clear hb
    obtain ⟨p9, p9'⟩ := x9.cells
    go_upto_region 9 with fail
    go_cut [11, 12] (fun s11 s12 wx => s12 = .int .i64 0 ∧ ∃ (B11 : Nat) (b11 : Bool) (a11 : Option Addr) (k11 c11 : Nat), s11 = .pointer (some ⟨B11, 0, none⟩) ∧ Bx wx B11 (.bool b11) (.slice a11 k11 c11) ∧ Num wx (.agg #[.bool b11, .slice a11 k11 c11]) (z * (c.natAbs : Int)) ∧ Below wc.heap.size wc wx)
    case first =>
      replace hB : Below wc.heap.size wc wc.drew := (Below.refl wc.heap.size wc).drew
      replace ia : Num wc.drew _ _ := ia
      replace ib : Num wc.drew _ _ := ib
      replace ic : Num wc.drew _ _ := ic
      replace xia : Bx wc.drew _ _ _ := xia
      replace xib : Bx wc.drew _ _ _ := xib
      replace xic : Bx wc.drew _ _ _ := xic
      clear gg xg pg pg' g9 x9 p9 p9'
      have nc0 : wc.heap.size ≠ w.heap.size := (by have := xia.lt; have := xib.lt; have := xic.lt; simp only [World.size_drew] at *; omega)
      have nc1 : wc.heap.size ≠ w.heap.size + 1 := (by have := xia.lt; have := xib.lt; have := xic.lt; simp only [World.size_drew] at *; omega)
      have nc2 : wc.heap.size ≠ w.heap.size + 1 + 1 := (by have := xia.lt; have := xib.lt; have := xic.lt; simp only [World.size_drew] at *; omega)
      have A1D : Below wc.drew.heap.size wc.drew ((wc.alloc (.cells #[.bool false, .slice none 0 0] 26)).drew) := (Below.refl wc.drew.heap.size wc.drew).alloc (Nat.le_refl _) (.cells #[.bool false, .slice none 0 0] 26)
      have Z1D : Bx ((wc.alloc (.cells #[.bool false, .slice none 0 0] 26)).drew) wc.heap.size (.bool false) (.slice none 0 0) := Bx.new wc (.bool false) (.slice none 0 0)
      have A1E : Below wc.drew.heap.size wc.drew (wc.drew.alloc (.cells #[.bool false, .slice none 0 0] 26)) := (Below.refl wc.drew.heap.size wc.drew).alloc (Nat.le_refl _) (.cells #[.bool false, .slice none 0 0] 26)
      have Z1E : Bx (wc.drew.alloc (.cells #[.bool false, .slice none 0 0] 26)) wc.heap.size (.bool false) (.slice none 0 0) := Bx.new wc (.bool false) (.slice none 0 0)
      go_region_held3 (fun w' => w'.cell? ⟨w.heap.size, 0, none⟩ = some (.bool bia) ∧ w'.cell? ⟨w.heap.size, 1, none⟩ = some (.slice aia kia cia) ∧ w'.cell? ⟨w.heap.size + 1, 0, none⟩ = some (.bool bib) ∧ w'.cell? ⟨w.heap.size + 1, 1, none⟩ = some (.slice aib kib cib) ∧ w'.cell? ⟨w.heap.size + 1 + 1, 0, none⟩ = some (.bool bic) ∧ w'.cell? ⟨w.heap.size + 1 + 1, 1, none⟩ = some (.slice aic kic cic))
        (first | exact ⟨pia, pia', pib, pib', pic, pic'⟩ | go_keep)
        (first
          | (go_at_call 32; ((with_reducible refine (HP1.out _ _ _ ia ic).mono ?_); rintro e wn ⟨⟨v, rfl, hn⟩, hb⟩; obtain ⟨bm1, am1, km1, cm1, rfl⟩ := hn.opened; have hX := hb; replace ia := ia.below hX (Nat.le_refl _); replace ib := ib.below hX (Nat.le_refl _); replace ic := ic.below hX (Nat.le_refl _); replace xia := xia.on hX; clear pia pia'; obtain ⟨pia, pia'⟩ := xia.cells; replace xib := xib.on hX; clear pib pib'; obtain ⟨pib, pib'⟩ := xib.cells; replace xic := xic.on hX; clear pic pic'; obtain ⟨pic, pic'⟩ := xic.cells; replace hB := hB.trans (hX.mono hB.size); have nn0 : wn.heap.size ≠ w.heap.size := (by have := xia.lt; have := xib.lt; have := xic.lt; simp only [World.size_drew] at *; omega); have nn1 : wn.heap.size ≠ w.heap.size + 1 := (by have := xia.lt; have := xib.lt; have := xic.lt; simp only [World.size_drew] at *; omega); have nn2 : wn.heap.size ≠ w.heap.size + 1 + 1 := (by have := xia.lt; have := xib.lt; have := xic.lt; simp only [World.size_drew] at *; omega); have lwn : wc.heap.size ≤ wn.heap.size := hB.size; have m1 := hn.num; clear hb hX hn))
          | (go_at_call 32; ((with_reducible refine (HP1.out _ _ _ (ia.below A1D (Nat.le_refl _)) (ic.below A1D (Nat.le_refl _))).mono ?_); rintro e wn ⟨⟨v, rfl, hn⟩, hb⟩; obtain ⟨bm1, am1, km1, cm1, rfl⟩ := hn.opened; have zb := Z1D.on hb; have lzb : wc.heap.size ≤ wc.heap.size := Nat.le_refl _; have hX := then_below A1D hb; replace ia := ia.below hX (Nat.le_refl _); replace ib := ib.below hX (Nat.le_refl _); replace ic := ic.below hX (Nat.le_refl _); replace xia := xia.on hX; clear pia pia'; obtain ⟨pia, pia'⟩ := xia.cells; replace xib := xib.on hX; clear pib pib'; obtain ⟨pib, pib'⟩ := xib.cells; replace xic := xic.on hX; clear pic pic'; obtain ⟨pic, pic'⟩ := xic.cells; replace hB := hB.trans (hX.mono hB.size); have nn0 : wn.heap.size ≠ w.heap.size := (by have := xia.lt; have := xib.lt; have := xic.lt; simp only [World.size_drew] at *; omega); have nn1 : wn.heap.size ≠ w.heap.size + 1 := (by have := xia.lt; have := xib.lt; have := xic.lt; simp only [World.size_drew] at *; omega); have nn2 : wn.heap.size ≠ w.heap.size + 1 + 1 := (by have := xia.lt; have := xib.lt; have := xic.lt; simp only [World.size_drew] at *; omega); have lwn : wc.heap.size ≤ wn.heap.size := hB.size; have m1 := hn.num; clear hb hX hn))
          | (go_at_call 32; ((with_reducible refine (HP1.out _ _ _ (ia.below A1E (Nat.le_refl _)) (ic.below A1E (Nat.le_refl _))).mono ?_); rintro e wn ⟨⟨v, rfl, hn⟩, hb⟩; obtain ⟨bm1, am1, km1, cm1, rfl⟩ := hn.opened; have zb := Z1E.on hb; have lzb : wc.heap.size ≤ wc.heap.size := Nat.le_refl _; have hX := then_below A1E hb; replace ia := ia.below hX (Nat.le_refl _); replace ib := ib.below hX (Nat.le_refl _); replace ic := ic.below hX (Nat.le_refl _); replace xia := xia.on hX; clear pia pia'; obtain ⟨pia, pia'⟩ := xia.cells; replace xib := xib.on hX; clear pib pib'; obtain ⟨pib, pib'⟩ := xib.cells; replace xic := xic.on hX; clear pic pic'; obtain ⟨pic, pic'⟩ := xic.cells; replace hB := hB.trans (hX.mono hB.size); have nn0 : wn.heap.size ≠ w.heap.size := (by have := xia.lt; have := xib.lt; have := xic.lt; simp only [World.size_drew] at *; omega); have nn1 : wn.heap.size ≠ w.heap.size + 1 := (by have := xia.lt; have := xib.lt; have := xic.lt; simp only [World.size_drew] at *; omega); have nn2 : wn.heap.size ≠ w.heap.size + 1 + 1 := (by have := xia.lt; have := xib.lt; have := xic.lt; simp only [World.size_drew] at *; omega); have lwn : wc.heap.size ≤ wn.heap.size := hB.size; have m1 := hn.num; clear hb hX hn))
          | (go_at_call 32; ((with_reducible refine (HP2.out _ _ _ ib ic).mono ?_); rintro e wm ⟨⟨v, rfl, hn⟩, hb⟩; obtain ⟨bm2, am2, km2, cm2, rfl⟩ := hn.opened; have hX := hb; replace ia := ia.below hX (Nat.le_refl _); replace ib := ib.below hX (Nat.le_refl _); replace ic := ic.below hX (Nat.le_refl _); replace xia := xia.on hX; clear pia pia'; obtain ⟨pia, pia'⟩ := xia.cells; replace xib := xib.on hX; clear pib pib'; obtain ⟨pib, pib'⟩ := xib.cells; replace xic := xic.on hX; clear pic pic'; obtain ⟨pic, pic'⟩ := xic.cells; (try replace m1 := m1.below hX (Nat.le_refl _)); replace hB := hB.trans (hX.mono hB.size); (try replace zb := zb.on hX); have nm0 : wm.heap.size ≠ w.heap.size := (by have := xia.lt; have := xib.lt; have := xic.lt; simp only [World.size_drew] at *; omega); have nm1 : wm.heap.size ≠ w.heap.size + 1 := (by have := xia.lt; have := xib.lt; have := xic.lt; simp only [World.size_drew] at *; omega); have nm2 : wm.heap.size ≠ w.heap.size + 1 + 1 := (by have := xia.lt; have := xib.lt; have := xic.lt; simp only [World.size_drew] at *; omega); have lwm : wc.heap.size ≤ wm.heap.size := hB.size; have m2 := hn.num; clear hb hX hn))
          | (go_at_call 32; ((with_reducible refine (HP2.out _ _ _ (ib.below ((Below.refl wn.heap.size wn).alloc (Nat.le_refl _) (.cells #[.bool false, .slice none 0 0] 26)) (Nat.le_refl _)) (ic.below ((Below.refl wn.heap.size wn).alloc (Nat.le_refl _) (.cells #[.bool false, .slice none 0 0] 26)) (Nat.le_refl _))).mono ?_); rintro e wm ⟨⟨v, rfl, hn⟩, hb⟩; obtain ⟨bm2, am2, km2, cm2, rfl⟩ := hn.opened; have zb := (Bx.new wn (.bool false) (.slice none 0 0)).on hb; have lzb : wc.heap.size ≤ wn.heap.size := lwn; have hX := then_below ((Below.refl wn.heap.size wn).alloc (Nat.le_refl _) (.cells #[.bool false, .slice none 0 0] 26)) hb; replace ia := ia.below hX (Nat.le_refl _); replace ib := ib.below hX (Nat.le_refl _); replace ic := ic.below hX (Nat.le_refl _); replace xia := xia.on hX; clear pia pia'; obtain ⟨pia, pia'⟩ := xia.cells; replace xib := xib.on hX; clear pib pib'; obtain ⟨pib, pib'⟩ := xib.cells; replace xic := xic.on hX; clear pic pic'; obtain ⟨pic, pic'⟩ := xic.cells; (try replace m1 := m1.below hX (Nat.le_refl _)); replace hB := hB.trans (hX.mono hB.size); have nm0 : wm.heap.size ≠ w.heap.size := (by have := xia.lt; have := xib.lt; have := xic.lt; simp only [World.size_drew] at *; omega); have nm1 : wm.heap.size ≠ w.heap.size + 1 := (by have := xia.lt; have := xib.lt; have := xic.lt; simp only [World.size_drew] at *; omega); have nm2 : wm.heap.size ≠ w.heap.size + 1 + 1 := (by have := xia.lt; have := xib.lt; have := xic.lt; simp only [World.size_drew] at *; omega); have lwm : wc.heap.size ≤ wm.heap.size := hB.size; have m2 := hn.num; clear hb hX hn))
          | (go_at_call 36; ((with_reducible refine (HG9.out _ _ _ m1 m2).mono ?_); rintro e wq ⟨⟨v, rfl, hn⟩, hb⟩; obtain ⟨bgu, agu, kgu, cgu, rfl⟩ := hn.opened; have hX := hb; replace ia := ia.below hX (Nat.le_refl _); replace ib := ib.below hX (Nat.le_refl _); replace ic := ic.below hX (Nat.le_refl _); replace xia := xia.on hX; clear pia pia'; obtain ⟨pia, pia'⟩ := xia.cells; replace xib := xib.on hX; clear pib pib'; obtain ⟨pib, pib'⟩ := xib.cells; replace xic := xic.on hX; clear pic pic'; obtain ⟨pic, pic'⟩ := xic.cells; replace hB := hB.trans (hX.mono hB.size); (try replace zb := zb.on hX); (try (have lz := zb.lt; obtain ⟨cz, cz'⟩ := zb.cells; obtain ⟨fz, fz'⟩ := zb.free)); have gu := hn.num; clear hb hX hn m1 m2))
          | (go_at_call 36; ((with_reducible refine (HG9.out _ _ _ (m1.below ((Below.refl wm.heap.size wm).alloc (Nat.le_refl _) (.cells #[.bool false, .slice none 0 0] 26)) (Nat.le_refl _)) (m2.below ((Below.refl wm.heap.size wm).alloc (Nat.le_refl _) (.cells #[.bool false, .slice none 0 0] 26)) (Nat.le_refl _))).mono ?_); rintro e wq ⟨⟨v, rfl, hn⟩, hb⟩; obtain ⟨bgu, agu, kgu, cgu, rfl⟩ := hn.opened; have zb := (Bx.new wm (.bool false) (.slice none 0 0)).on hb; have lzb : wc.heap.size ≤ wm.heap.size := lwm; have hX := then_below ((Below.refl wm.heap.size wm).alloc (Nat.le_refl _) (.cells #[.bool false, .slice none 0 0] 26)) hb; replace ia := ia.below hX (Nat.le_refl _); replace ib := ib.below hX (Nat.le_refl _); replace ic := ic.below hX (Nat.le_refl _); replace xia := xia.on hX; clear pia pia'; obtain ⟨pia, pia'⟩ := xia.cells; replace xib := xib.on hX; clear pib pib'; obtain ⟨pib, pib'⟩ := xib.cells; replace xic := xic.on hX; clear pic pic'; obtain ⟨pic, pic'⟩ := xic.cells; replace hB := hB.trans (hX.mono hB.size); (try (have lz := zb.lt; obtain ⟨cz, cz'⟩ := zb.cells; obtain ⟨fz, fz'⟩ := zb.free)); have gu := hn.num; clear hb hX hn m1 m2)))
      all_goals (go_wp2_with fail; go_meet)
      all_goals first
        | (obtain ⟨e1, e2, e3⟩ := one_new hB hB.size (.bool bgu) (.slice agu kgu cgu) gu; exact ⟨rfl, _, _, _, _, _, rfl, e1, e2, e3⟩)
        | (obtain ⟨e1, e2, e3⟩ := one_old hB lzb zb (.bool bgu) (.slice agu kgu cgu) gu; exact ⟨rfl, _, _, _, _, _, rfl, e1, e2, e3⟩)
    case rest =>
      obtain ⟨rfl, B11, b11, a11, k11, c11, rfl, x11, g11, hb⟩ := hcut
      replace ia := ia.below hb (Nat.le_refl _)
      replace ib := ib.below hb (Nat.le_refl _)
      replace ic := ic.below hb (Nat.le_refl _)
      replace gg := gg.below hb (Nat.le_refl _)
      replace g9 := g9.below hb (Nat.le_refl _)
      replace xia := xia.on hb; clear pia pia'; obtain ⟨pia, pia'⟩ := xia.cells
      replace xib := xib.on hb; clear pib pib'; obtain ⟨pib, pib'⟩ := xib.cells
      replace xic := xic.on hb; clear pic pic'; obtain ⟨pic, pic'⟩ := xic.cells
      replace xg := xg.on hb; clear pg pg'; obtain ⟨pg, pg'⟩ := xg.cells
      replace x9 := x9.on hb; clear p9 p9'; obtain ⟨p9, p9'⟩ := x9.cells
      replace hB := hB.trans (hb.mono hB.size)
      clear hb
      obtain ⟨p11, p11'⟩ := x11.cells
      have gs := abs_num ic
      go_upto_region 10 with fail
      replace hB : Below w.heap.size w wc.drew := hB.drew
      replace ia : Num wc.drew _ _ := ia
      replace ib : Num wc.drew _ _ := ib
      replace ic : Num wc.drew _ _ := ic
      replace gg : Num wc.drew _ _ := gg
      replace g9 : Num wc.drew _ _ := g9
      replace g11 : Num wc.drew _ _ := g11
      replace gs : Num wc.drew _ _ := gs
      replace xia : Bx wc.drew _ _ _ := xia
      replace xib : Bx wc.drew _ _ _ := xib
      replace xic : Bx wc.drew _ _ _ := xic
      replace xg : Bx wc.drew _ _ _ := xg
      replace x9 : Bx wc.drew _ _ _ := x9
      replace x11 : Bx wc.drew _ _ _ := x11
      go_region_held3 (fun w' => w'.cell? ⟨w.heap.size + 1 + 1, 0, none⟩ = some (.bool bic) ∧ w'.cell? ⟨w.heap.size + 1 + 1, 1, none⟩ = some (.slice aic kic cic) ∧ w'.cell? ⟨v3.heap.size, 0, none⟩ = some (.bool false) ∧ w'.cell? ⟨v3.heap.size, 1, none⟩ = some (.slice agg kgg cgg) ∧ w'.cell? ⟨B9, 0, none⟩ = some (.bool b9) ∧ w'.cell? ⟨B9, 1, none⟩ = some (.slice a9 k9 c9) ∧ w'.cell? ⟨B11, 0, none⟩ = some (.bool b11) ∧ w'.cell? ⟨B11, 1, none⟩ = some (.slice a11 k11 c11))
        (first | exact ⟨pic, pic', pg, pg', p9, p9', p11, p11'⟩ | go_keep)
        (first
          | (go_at_call 30; ((with_reducible refine (HE9.out _ _ _ g9 gg).mono ?_); rintro e wn ⟨rfl, hb⟩; replace ia := ia.below hb (Nat.le_refl _); replace ib := ib.below hb (Nat.le_refl _); replace ic := ic.below hb (Nat.le_refl _); replace gg := gg.below hb (Nat.le_refl _); replace g9 := g9.below hb (Nat.le_refl _); replace g11 := g11.below hb (Nat.le_refl _); replace gs := gs.below hb (Nat.le_refl _); replace xia := xia.on hb; clear pia pia'; obtain ⟨pia, pia'⟩ := xia.cells; replace xib := xib.on hb; clear pib pib'; obtain ⟨pib, pib'⟩ := xib.cells; replace xic := xic.on hb; clear pic pic'; obtain ⟨pic, pic'⟩ := xic.cells; replace xg := xg.on hb; clear pg pg'; obtain ⟨pg, pg'⟩ := xg.cells; replace x9 := x9.on hb; clear p9 p9'; obtain ⟨p9, p9'⟩ := x9.cells; replace x11 := x11.on hb; clear p11 p11'; obtain ⟨p11, p11'⟩ := x11.cells; (try replace mm := mm.below hb (Nat.le_refl _)); replace hB := hB.trans (hb.mono hB.size); clear hb))
          | (go_at_call 32; ((with_reducible refine (HPc.out _ _ _ gg gs).mono ?_); rintro e wn ⟨⟨v, rfl, hn⟩, hb⟩; obtain ⟨bmm, amm, kmm, cmm, rfl⟩ := hn.opened; replace ia := ia.below hb (Nat.le_refl _); replace ib := ib.below hb (Nat.le_refl _); replace ic := ic.below hb (Nat.le_refl _); replace gg := gg.below hb (Nat.le_refl _); replace g9 := g9.below hb (Nat.le_refl _); replace g11 := g11.below hb (Nat.le_refl _); replace gs := gs.below hb (Nat.le_refl _); replace xia := xia.on hb; clear pia pia'; obtain ⟨pia, pia'⟩ := xia.cells; replace xib := xib.on hb; clear pib pib'; obtain ⟨pib, pib'⟩ := xib.cells; replace xic := xic.on hb; clear pic pic'; obtain ⟨pic, pic'⟩ := xic.cells; replace xg := xg.on hb; clear pg pg'; obtain ⟨pg, pg'⟩ := xg.cells; replace x9 := x9.on hb; clear p9 p9'; obtain ⟨p9, p9'⟩ := x9.cells; replace x11 := x11.on hb; clear p11 p11'; obtain ⟨p11, p11'⟩ := x11.cells; (try replace mm := mm.below hb (Nat.le_refl _)); replace hB := hB.trans (hb.mono hB.size); have mm := hn.num; clear hb hn))
          | (go_at_call 30; ((with_reducible refine (HE11.out _ _ _ g11 mm).mono ?_); rintro e wn ⟨rfl, hb⟩; replace ia := ia.below hb (Nat.le_refl _); replace ib := ib.below hb (Nat.le_refl _); replace ic := ic.below hb (Nat.le_refl _); replace gg := gg.below hb (Nat.le_refl _); replace g9 := g9.below hb (Nat.le_refl _); replace g11 := g11.below hb (Nat.le_refl _); replace gs := gs.below hb (Nat.le_refl _); replace xia := xia.on hb; clear pia pia'; obtain ⟨pia, pia'⟩ := xia.cells; replace xib := xib.on hb; clear pib pib'; obtain ⟨pib, pib'⟩ := xib.cells; replace xic := xic.on hb; clear pic pic'; obtain ⟨pic, pic'⟩ := xic.cells; replace xg := xg.on hb; clear pg pg'; obtain ⟨pg, pg'⟩ := xg.cells; replace x9 := x9.on hb; clear p9 p9'; obtain ⟨p9, p9'⟩ := x9.cells; replace x11 := x11.on hb; clear p11 p11'; obtain ⟨p11, p11'⟩ := x11.cells; (try replace mm := mm.below hb (Nat.le_refl _)); replace hB := hB.trans (hb.mono hB.size); clear hb)))
      obtain ⟨wk, hcur⟩ : ∃ W : World, W = wn := ⟨_, rfl⟩
      subst hcur
      clear gs g9 g11 x9 x11 p9 p9' p11 p11' mm HP1 HS1 HG8 HP2 HG9 HE9 HPc HE11
      have ekg := lim_len (neg_num gg).2
      by_cases h0 : z = 0
      · have hab : a = 0 ∧ b = 0 := by
          have := hz.out; rw [h0] at this
          exact Int.gcd_eq_zero_iff.1 (by omega)
        obtain rfl : kgg = 0 := by rw [ekg, h0]; simp [dig_zero]
        obtain rfl : kia = 0 := by rw [lim_len (neg_num ia).2, hab.1]; simp [dig_zero]
        obtain rfl : kib = 0 := by rw [lim_len (neg_num ib).2, hab.2]; simp [dig_zero]
        clear ekg h0 hab hz
        go_wp2
        go_ret
        exact ⟨rfl, hB⟩
      · have hkg : ((kgg : Int) == 0) = false := by have := dig_pos_len (show z.natAbs ≠ 0 by omega); simp; omega
        obtain ⟨x, y, hx, hy, hxy, lx, ly⟩ := gcd_parts a b (by have := hz.out; omega)
        rw [← hz.out] at hx hy
        have sx : Sz 40 x := le_sz sa lx
        have sy : Sz 40 y := le_sz sb ly
        have HD1 := Lib.hid (fun vx vy W (h : Num W vx a) (g : Num W vy z) => divided_any vx vy a z x hx h0 (Sz.len sa (by decide)) (Sz.len sz (by decide)) W h g)
        have HD2 := Lib.hid (fun vx vy W (h : Num W vx b) (g : Num W vy z) => divided_any vx vy b z y hy h0 (Sz.len sb (by decide)) (Sz.len sz (by decide)) W h g)
        have HG14 := Lib.hid (fun vx vy W (h : Num W vx x) (g : Num W vy y) => Gcd_known vx vy x y 1 (by rw [hxy]; rfl) (Sz.len sx (by decide)) (Sz.len sy (by decide)) (Sz.len (Sz.small (z := 1) (by decide)) (by decide)) W h g)
        have HN := Lib.hid (fun W => num_any 1 (by decide) (by decide) W)
        have HE1 := Lib.hid (fun vx vy W (h : Num W vx (1)) (g : Num W vy (1)) => equal_any vx vy (1) (Sz.len (Sz.small (z := 1) (by decide)) (by decide)) W h g)
        clear hx hy hxy lx ly ekg
        replace h0 := Lib.hid h0
        go_upto_region 14 with fail
        go_cut [13, 14] (fun s13 s14 wx => s14 = .int .i64 0 ∧ ∃ (B13 : Nat) (b13 : Bool) (a13 : Option Addr) (k13 c13 : Nat), s13 = .pointer (some ⟨B13, 0, none⟩) ∧ Bx wx B13 (.bool b13) (.slice a13 k13 c13) ∧ Num wx (.agg #[.bool b13, .slice a13 k13 c13]) (1) ∧ Below wk.heap.size wk wx)
        case first =>
          replace hB : Below wk.heap.size wk wk.drew := (Below.refl wk.heap.size wk).drew
          replace ia : Num wk.drew _ _ := ia
          replace ib : Num wk.drew _ _ := ib
          replace gg : Num wk.drew _ _ := gg
          replace xia : Bx wk.drew _ _ _ := xia
          replace xib : Bx wk.drew _ _ _ := xib
          replace xg : Bx wk.drew _ _ _ := xg
          clear ic xic pic pic'
          have nc0 : wk.heap.size ≠ w.heap.size := (by have := xia.lt; have := xib.lt; have := xg.lt; simp only [World.size_drew] at *; omega)
          have nc1 : wk.heap.size ≠ w.heap.size + 1 := (by have := xia.lt; have := xib.lt; have := xg.lt; simp only [World.size_drew] at *; omega)
          have nc2 : wk.heap.size ≠ v3.heap.size := (by have := xia.lt; have := xib.lt; have := xg.lt; simp only [World.size_drew] at *; omega)
          have A1D : Below wk.drew.heap.size wk.drew ((wk.alloc (.cells #[.bool false, .slice none 0 0] 26)).drew) := (Below.refl wk.drew.heap.size wk.drew).alloc (Nat.le_refl _) (.cells #[.bool false, .slice none 0 0] 26)
          have Z1D : Bx ((wk.alloc (.cells #[.bool false, .slice none 0 0] 26)).drew) wk.heap.size (.bool false) (.slice none 0 0) := Bx.new wk (.bool false) (.slice none 0 0)
          have A1E : Below wk.drew.heap.size wk.drew (wk.drew.alloc (.cells #[.bool false, .slice none 0 0] 26)) := (Below.refl wk.drew.heap.size wk.drew).alloc (Nat.le_refl _) (.cells #[.bool false, .slice none 0 0] 26)
          have Z1E : Bx (wk.drew.alloc (.cells #[.bool false, .slice none 0 0] 26)) wk.heap.size (.bool false) (.slice none 0 0) := Bx.new wk (.bool false) (.slice none 0 0)
          go_region_held3 (fun w' => w'.cell? ⟨w.heap.size, 0, none⟩ = some (.bool bia) ∧ w'.cell? ⟨w.heap.size, 1, none⟩ = some (.slice aia kia cia) ∧ w'.cell? ⟨w.heap.size + 1, 0, none⟩ = some (.bool bib) ∧ w'.cell? ⟨w.heap.size + 1, 1, none⟩ = some (.slice aib kib cib) ∧ w'.cell? ⟨v3.heap.size, 0, none⟩ = some (.bool false) ∧ w'.cell? ⟨v3.heap.size, 1, none⟩ = some (.slice agg kgg cgg))
            (first | exact ⟨pia, pia', pib, pib', pg, pg'⟩ | go_keep)
            (first
              | (go_at_call 37; ((with_reducible refine (HD1.out _ _ _ ia gg).mono ?_); rintro e wn ⟨⟨v, rfl, hn⟩, hb⟩; obtain ⟨bm1, am1, km1, cm1, rfl⟩ := hn.opened; have hX := hb; replace ia := ia.below hX (Nat.le_refl _); replace ib := ib.below hX (Nat.le_refl _); replace gg := gg.below hX (Nat.le_refl _); replace xia := xia.on hX; clear pia pia'; obtain ⟨pia, pia'⟩ := xia.cells; replace xib := xib.on hX; clear pib pib'; obtain ⟨pib, pib'⟩ := xib.cells; replace xg := xg.on hX; clear pg pg'; obtain ⟨pg, pg'⟩ := xg.cells; replace hB := hB.trans (hX.mono hB.size); have nn0 : wn.heap.size ≠ w.heap.size := (by have := xia.lt; have := xib.lt; have := xg.lt; simp only [World.size_drew] at *; omega); have nn1 : wn.heap.size ≠ w.heap.size + 1 := (by have := xia.lt; have := xib.lt; have := xg.lt; simp only [World.size_drew] at *; omega); have nn2 : wn.heap.size ≠ v3.heap.size := (by have := xia.lt; have := xib.lt; have := xg.lt; simp only [World.size_drew] at *; omega); have lwn : wk.heap.size ≤ wn.heap.size := hB.size; have m1 := hn.num; clear hb hX hn))
              | (go_at_call 37; ((with_reducible refine (HD1.out _ _ _ (ia.below A1D (Nat.le_refl _)) (gg.below A1D (Nat.le_refl _))).mono ?_); rintro e wn ⟨⟨v, rfl, hn⟩, hb⟩; obtain ⟨bm1, am1, km1, cm1, rfl⟩ := hn.opened; have zb := Z1D.on hb; have lzb : wk.heap.size ≤ wk.heap.size := Nat.le_refl _; have hX := then_below A1D hb; replace ia := ia.below hX (Nat.le_refl _); replace ib := ib.below hX (Nat.le_refl _); replace gg := gg.below hX (Nat.le_refl _); replace xia := xia.on hX; clear pia pia'; obtain ⟨pia, pia'⟩ := xia.cells; replace xib := xib.on hX; clear pib pib'; obtain ⟨pib, pib'⟩ := xib.cells; replace xg := xg.on hX; clear pg pg'; obtain ⟨pg, pg'⟩ := xg.cells; replace hB := hB.trans (hX.mono hB.size); have nn0 : wn.heap.size ≠ w.heap.size := (by have := xia.lt; have := xib.lt; have := xg.lt; simp only [World.size_drew] at *; omega); have nn1 : wn.heap.size ≠ w.heap.size + 1 := (by have := xia.lt; have := xib.lt; have := xg.lt; simp only [World.size_drew] at *; omega); have nn2 : wn.heap.size ≠ v3.heap.size := (by have := xia.lt; have := xib.lt; have := xg.lt; simp only [World.size_drew] at *; omega); have lwn : wk.heap.size ≤ wn.heap.size := hB.size; have m1 := hn.num; clear hb hX hn))
              | (go_at_call 37; ((with_reducible refine (HD1.out _ _ _ (ia.below A1E (Nat.le_refl _)) (gg.below A1E (Nat.le_refl _))).mono ?_); rintro e wn ⟨⟨v, rfl, hn⟩, hb⟩; obtain ⟨bm1, am1, km1, cm1, rfl⟩ := hn.opened; have zb := Z1E.on hb; have lzb : wk.heap.size ≤ wk.heap.size := Nat.le_refl _; have hX := then_below A1E hb; replace ia := ia.below hX (Nat.le_refl _); replace ib := ib.below hX (Nat.le_refl _); replace gg := gg.below hX (Nat.le_refl _); replace xia := xia.on hX; clear pia pia'; obtain ⟨pia, pia'⟩ := xia.cells; replace xib := xib.on hX; clear pib pib'; obtain ⟨pib, pib'⟩ := xib.cells; replace xg := xg.on hX; clear pg pg'; obtain ⟨pg, pg'⟩ := xg.cells; replace hB := hB.trans (hX.mono hB.size); have nn0 : wn.heap.size ≠ w.heap.size := (by have := xia.lt; have := xib.lt; have := xg.lt; simp only [World.size_drew] at *; omega); have nn1 : wn.heap.size ≠ w.heap.size + 1 := (by have := xia.lt; have := xib.lt; have := xg.lt; simp only [World.size_drew] at *; omega); have nn2 : wn.heap.size ≠ v3.heap.size := (by have := xia.lt; have := xib.lt; have := xg.lt; simp only [World.size_drew] at *; omega); have lwn : wk.heap.size ≤ wn.heap.size := hB.size; have m1 := hn.num; clear hb hX hn))
              | (go_at_call 37; ((with_reducible refine (HD2.out _ _ _ ib gg).mono ?_); rintro e wm ⟨⟨v, rfl, hn⟩, hb⟩; obtain ⟨bm2, am2, km2, cm2, rfl⟩ := hn.opened; have hX := hb; replace ia := ia.below hX (Nat.le_refl _); replace ib := ib.below hX (Nat.le_refl _); replace gg := gg.below hX (Nat.le_refl _); replace xia := xia.on hX; clear pia pia'; obtain ⟨pia, pia'⟩ := xia.cells; replace xib := xib.on hX; clear pib pib'; obtain ⟨pib, pib'⟩ := xib.cells; replace xg := xg.on hX; clear pg pg'; obtain ⟨pg, pg'⟩ := xg.cells; (try replace m1 := m1.below hX (Nat.le_refl _)); replace hB := hB.trans (hX.mono hB.size); (try replace zb := zb.on hX); have nm0 : wm.heap.size ≠ w.heap.size := (by have := xia.lt; have := xib.lt; have := xg.lt; simp only [World.size_drew] at *; omega); have nm1 : wm.heap.size ≠ w.heap.size + 1 := (by have := xia.lt; have := xib.lt; have := xg.lt; simp only [World.size_drew] at *; omega); have nm2 : wm.heap.size ≠ v3.heap.size := (by have := xia.lt; have := xib.lt; have := xg.lt; simp only [World.size_drew] at *; omega); have lwm : wk.heap.size ≤ wm.heap.size := hB.size; have m2 := hn.num; clear hb hX hn))
              | (go_at_call 37; ((with_reducible refine (HD2.out _ _ _ (ib.below ((Below.refl wn.heap.size wn).alloc (Nat.le_refl _) (.cells #[.bool false, .slice none 0 0] 26)) (Nat.le_refl _)) (gg.below ((Below.refl wn.heap.size wn).alloc (Nat.le_refl _) (.cells #[.bool false, .slice none 0 0] 26)) (Nat.le_refl _))).mono ?_); rintro e wm ⟨⟨v, rfl, hn⟩, hb⟩; obtain ⟨bm2, am2, km2, cm2, rfl⟩ := hn.opened; have zb := (Bx.new wn (.bool false) (.slice none 0 0)).on hb; have lzb : wk.heap.size ≤ wn.heap.size := lwn; have hX := then_below ((Below.refl wn.heap.size wn).alloc (Nat.le_refl _) (.cells #[.bool false, .slice none 0 0] 26)) hb; replace ia := ia.below hX (Nat.le_refl _); replace ib := ib.below hX (Nat.le_refl _); replace gg := gg.below hX (Nat.le_refl _); replace xia := xia.on hX; clear pia pia'; obtain ⟨pia, pia'⟩ := xia.cells; replace xib := xib.on hX; clear pib pib'; obtain ⟨pib, pib'⟩ := xib.cells; replace xg := xg.on hX; clear pg pg'; obtain ⟨pg, pg'⟩ := xg.cells; (try replace m1 := m1.below hX (Nat.le_refl _)); replace hB := hB.trans (hX.mono hB.size); have nm0 : wm.heap.size ≠ w.heap.size := (by have := xia.lt; have := xib.lt; have := xg.lt; simp only [World.size_drew] at *; omega); have nm1 : wm.heap.size ≠ w.heap.size + 1 := (by have := xia.lt; have := xib.lt; have := xg.lt; simp only [World.size_drew] at *; omega); have nm2 : wm.heap.size ≠ v3.heap.size := (by have := xia.lt; have := xib.lt; have := xg.lt; simp only [World.size_drew] at *; omega); have lwm : wk.heap.size ≤ wm.heap.size := hB.size; have m2 := hn.num; clear hb hX hn))
              | (go_at_call 36; ((with_reducible refine (HG14.out _ _ _ m1 m2).mono ?_); rintro e wq ⟨⟨v, rfl, hn⟩, hb⟩; obtain ⟨bgu, agu, kgu, cgu, rfl⟩ := hn.opened; have hX := hb; replace ia := ia.below hX (Nat.le_refl _); replace ib := ib.below hX (Nat.le_refl _); replace gg := gg.below hX (Nat.le_refl _); replace xia := xia.on hX; clear pia pia'; obtain ⟨pia, pia'⟩ := xia.cells; replace xib := xib.on hX; clear pib pib'; obtain ⟨pib, pib'⟩ := xib.cells; replace xg := xg.on hX; clear pg pg'; obtain ⟨pg, pg'⟩ := xg.cells; replace hB := hB.trans (hX.mono hB.size); (try replace zb := zb.on hX); (try (have lz := zb.lt; obtain ⟨cz, cz'⟩ := zb.cells; obtain ⟨fz, fz'⟩ := zb.free)); have gu := hn.num; clear hb hX hn m1 m2))
              | (go_at_call 36; ((with_reducible refine (HG14.out _ _ _ (m1.below ((Below.refl wm.heap.size wm).alloc (Nat.le_refl _) (.cells #[.bool false, .slice none 0 0] 26)) (Nat.le_refl _)) (m2.below ((Below.refl wm.heap.size wm).alloc (Nat.le_refl _) (.cells #[.bool false, .slice none 0 0] 26)) (Nat.le_refl _))).mono ?_); rintro e wq ⟨⟨v, rfl, hn⟩, hb⟩; obtain ⟨bgu, agu, kgu, cgu, rfl⟩ := hn.opened; have zb := (Bx.new wm (.bool false) (.slice none 0 0)).on hb; have lzb : wk.heap.size ≤ wm.heap.size := lwm; have hX := then_below ((Below.refl wm.heap.size wm).alloc (Nat.le_refl _) (.cells #[.bool false, .slice none 0 0] 26)) hb; replace ia := ia.below hX (Nat.le_refl _); replace ib := ib.below hX (Nat.le_refl _); replace gg := gg.below hX (Nat.le_refl _); replace xia := xia.on hX; clear pia pia'; obtain ⟨pia, pia'⟩ := xia.cells; replace xib := xib.on hX; clear pib pib'; obtain ⟨pib, pib'⟩ := xib.cells; replace xg := xg.on hX; clear pg pg'; obtain ⟨pg, pg'⟩ := xg.cells; replace hB := hB.trans (hX.mono hB.size); (try (have lz := zb.lt; obtain ⟨cz, cz'⟩ := zb.cells; obtain ⟨fz, fz'⟩ := zb.free)); have gu := hn.num; clear hb hX hn m1 m2)))
          all_goals (go_wp2_with fail; go_meet)
          all_goals first
            | (obtain ⟨e1, e2, e3⟩ := one_new hB hB.size (.bool bgu) (.slice agu kgu cgu) gu; exact ⟨rfl, _, _, _, _, _, rfl, e1, e2, e3⟩)
            | (obtain ⟨e1, e2, e3⟩ := one_old hB lzb zb (.bool bgu) (.slice agu kgu cgu) gu; exact ⟨rfl, _, _, _, _, _, rfl, e1, e2, e3⟩)
        case rest =>
          obtain ⟨rfl, B13, b13, a13, k13, c13, rfl, x13, g13, hb⟩ := hcut
          replace ia := ia.below hb (Nat.le_refl _)
          replace ib := ib.below hb (Nat.le_refl _)
          replace ic := ic.below hb (Nat.le_refl _)
          replace gg := gg.below hb (Nat.le_refl _)
          replace xia := xia.on hb; clear pia pia'; obtain ⟨pia, pia'⟩ := xia.cells
          replace xib := xib.on hb; clear pib pib'; obtain ⟨pib, pib'⟩ := xib.cells
          replace xic := xic.on hb; clear pic pic'; obtain ⟨pic, pic'⟩ := xic.cells
          replace xg := xg.on hb; clear pg pg'; obtain ⟨pg, pg'⟩ := xg.cells
          replace hB := hB.trans (hb.mono hB.size)
          clear hb
          obtain ⟨p13, p13'⟩ := x13.cells
          go_upto_region 15 with fail
          replace hB : Below w.heap.size w wc.drew := hB.drew
          replace g13 : Num wc.drew _ _ := g13
          replace x13 : Bx wc.drew _ _ _ := x13
          go_region_held3 (fun w' => w'.cell? ⟨B13, 0, none⟩ = some (.bool b13) ∧ w'.cell? ⟨B13, 1, none⟩ = some (.slice a13 k13 c13))
            (first | exact ⟨p13, p13'⟩ | go_keep)
            (first
              | (go_at_call 25; ((with_reducible refine (HN.out _).mono ?_); rintro e wn ⟨⟨v, rfl, hn⟩, hb⟩; obtain ⟨bgone, agone, kgone, cgone, rfl⟩ := hn.opened; replace g13 := g13.below hb (Nat.le_refl _); replace x13 := x13.on hb; clear p13 p13'; obtain ⟨p13, p13'⟩ := x13.cells; (try replace gone := gone.below hb (Nat.le_refl _)); replace hB := hB.trans (hb.mono hB.size); have gone := hn.num; clear hb hn))
              | (go_at_call 30; ((with_reducible refine (HE1.out _ _ _ g13 gone).mono ?_); rintro e wn ⟨rfl, hb⟩; replace g13 := g13.below hb (Nat.le_refl _); replace x13 := x13.on hb; clear p13 p13'; obtain ⟨p13, p13'⟩ := x13.cells; (try replace gone := gone.below hb (Nat.le_refl _)); replace hB := hB.trans (hb.mono hB.size); clear hb)))
          go_wp2
          go_ret
          exact ⟨rfl, hB⟩

end Go.Proofs.Ytodmbklednehbaa
