/-
'WholeTexts'.
-/
import Derived.Test.YtodmbklednehbaaTextsA
import Derived.Test.YtodmbklednehbaaDivided
import Derived.Outline
import Derived.Tactics2
import Derived.WalkKit
import Derived.Deep.RegionHeld3
import Derived.Deep.DeepCutAuto
import Derived.KernelRfl
namespace Go.Proofs.Ytodmbklednehbaa
open Go.RowKit Wh

set_option maxRecDepth 100000 in
set_option maxHeartbeats 16000000 in
theorem WholeTexts_neg (a : Int) (sa : Sz 100 a) (bia : Bool) (aia : Option Addr) (kia cia : Nat) (t : ByteArray) (ht : t.size ≤ 400) (d : Nat) (hd : d < 256) (hsg : a < 0) (w : World) (ia : Num w (.agg #[.bool bia, .slice aia kia cia]) a) :
    Calls Try.prog 9 #[.agg #[.bool bia, .slice aia kia cia], .string t, .int .u8 (d : Int)] w fun e w' => e = .returned (.bool true) ∧ Below w.heap.size w w' := by
  obtain ⟨S, hS⟩ : ∃ S : ByteArray, S.data.toList = txt a := ⟨⟨(txt a).toArray⟩, rfl⟩
  have hSl : S.data.toList.length = S.size := by simp
  obtain ⟨tl1, tl2⟩ := txt_len sa
  rw [← hS, hSl] at tl1 tl2
  obtain ⟨tw1, tw2, tw3, tw4⟩ := txt_wf a
  obtain ⟨dd, hdd⟩ : ∃ dd : Nat, dd = d % 10 := ⟨_, rfl⟩
  have dd10 : dd < 10 := by omega
  have hdd2 : ((d : Int) % 10) = (dd : Int) := by omega
  have tneg0 := neg_head tl2
  rw [hS, tw3] at tneg0
  have hc0 : S[0].toNat = 45 := by rw [decide_eq_true hsg] at tneg0; exact of_decide_eq_true tneg0.symm
  have HT := Lib.hid (fun v W (h : Num W v a) => Text_known v a S hS (Sz.len sa (by decide)) W h)
  have HP1 := Lib.hid (fun W => Parse_known S (txt a) a hS (by rw [← hS, hSl]; omega) tw1 tw2 (by rw [tw4]; exact Sz.len sa (by decide)) W)
  have HE := Lib.hid (fun vx vy W (h : Num W vx a) (g : Num W vy a) => equal_any vx vy a (Sz.len sa (by decide)) W h g)
  have HP3 := Lib.hid (fun W => Parse_short t ht W)
  have HT3 := Lib.hid (fun v W (hw : twf t.data.toList = true) (h : Num W v (tval t.data.toList)) => Text_known v (tval t.data.toList) t (txt_back hw).symm (by rw [tval_abs]; exact short_len hw (by have : t.data.toList.length = t.size := (by simp); omega)) W h)
  obtain ⟨ts1, ts2, ts3⟩ := txt_snoc (z := a) (by omega) dd10
  rw [if_pos hsg] at ts2
  obtain ⟨z2, hz2⟩ : ∃ z2 : Int, z2 = a * 10 + -(dd : Int) := ⟨_, rfl⟩
  rw [← hz2] at ts2
  have sst : Sz 1 (-(dd : Int)) := Sz.small (by omega)
  have s10 : Sz 101 (a * 10) := Sz.mul sa (Sz.small (z := 10) (by decide))
  have sz2 : Sz 102 z2 := by rw [hz2]; exact Sz.add s10 sst
  have HP2 := Lib.hid (fun W => Parse_known (S ++ strOfNums [48 + (dd : Int)]) (txt a ++ [dbyte dd]) z2 (by rw [show (48 + (dd : Int)) = ((48 + dd : Nat) : Int) by omega, snoc_bytes, hS]) (by rw [List.length_append, ← hS, hSl]; simp; omega) ts1 ts2 (by have e : 10 * a.natAbs + dd = z2.natAbs := (by omega); rw [ts3, e]; exact Sz.len sz2 (by decide)) W)
  have HNs := Lib.hid (fun W => num_any (-(dd : Int)) (by omega) (by omega) W)
  have HNd := Lib.hid (fun W => num_any (dd : Int) (by omega) (by omega) W)
  have HN10 := Lib.hid (fun W => num_any 10 (by decide) (by decide) W)
  have HM := Lib.hid (fun vx vy W (h : Num W vx a) (g : Num W vy 10) => law_product_any vx vy a 10 (a * 10) rfl (Sz.len sa (by decide)) (Sz.len (Sz.small (z := 10) (by decide)) (by decide)) (Sz.len s10 (by decide)) W h g)
  have HSu := Lib.hid (fun vx vy W (h : Num W vx (a * 10)) (g : Num W vy (-(dd : Int))) => law_sum_any vx vy (a * 10) (-(dd : Int)) z2 hz2.symm (Sz.len s10 (by decide)) (Sz.len sst (by decide)) (Sz.len sz2 (by decide)) W h g)
  have HE2 := Lib.hid (fun vx vy W (h : Num W vx z2) (g : Num W vy z2) => equal_any vx vy z2 (Sz.len sz2 (by decide)) W h g)
  have hcv := fun (w : World) (x : Int) (g : Nat) (hg : g = w.heap.size) => one_byte w x 5 g hg
  have hone : (strOfNums [48 + (dd : Int)]).size = 1 := strOfNums_size _
  clear ts1 ts2 ts3 hz2 sst s10 sz2
  have ht4 : ¬ 400 < (t.size : Int) := by omega
  have hS0 : ((S.size : Int) == 0) = false := beq_eq_false_iff_ne.2 (by omega)
  obtain ⟨eb, lb⟩ := neg_num ia
  have ek := lim_len lb
  obtain rfl : bia = true := by rw [eb]; exact decide_eq_true (by omega)
  have hk0 : 0 < (kia : Int) := by have := dig_pos_len (show a.natAbs ≠ 0 by omega); omega
  clear eb lb ek tneg0 tw1 tw2 tw3 tw4 hS hSl hsg
  replace hdd := Lib.hid hdd
  have hB := ((Below.refl w.heap.size w).alloc (by simp <;> omega) (.cells #[.bool true, .slice aia kia cia] 26))
  have xia := (Bx.new w (.bool true) (.slice aia kia cia))
  replace ia := ia.below hB (Nat.le_refl _)
  go_enter Try.func9, Try.ntmps9
  go_wp2_with fail
  refine (awake_any _).mono ?_
  rintro e v1 ⟨rfl, hb⟩
  replace ia := ia.below hb (Nat.le_refl _)
  replace xia := xia.on hb
  obtain ⟨pia, pia'⟩ := xia.cells
  replace hB := hB.trans (hb.mono hB.size)
  clear hb
  go_wp2_with fail
  have al := (Below.refl v1.heap.size v1).alloc (Nat.le_refl _) (.cells #[.bool true, .slice aia kia cia] 26)
  replace ia := ia.below al (Nat.le_refl _)
  replace xia := xia.on al
  replace hB := hB.alloc hB.size (.cells #[.bool true, .slice aia kia cia] 26)
  clear al
  have HU := usable1_num' 100 v1.heap.size (by decide) a _ (by simp) (by simp) ia (Sz.len2 sa)
  refine HU.mono ?_
  clear HU
  rintro e v2 ⟨rfl, hb⟩
  clear pia pia'
  replace ia := ia.below hb (Nat.le_refl _)
  replace xia := xia.on hb
  obtain ⟨pia, pia'⟩ := xia.cells
  replace hB := hB.trans (hb.mono hB.size)
  clear hb
  go_wp2_with fail
  go_wp2_with fail
  refine (HT.out _ _ ia).mono ?_
  rintro e v3 ⟨rfl, hb⟩
  replace ia := ia.below hb (Nat.le_refl _)
  replace xia := xia.on hb; clear pia pia'; obtain ⟨pia, pia'⟩ := xia.cells
  replace hB := hB.trans (hb.mono hB.size)
  clear hb
  go_wp2_with fail
  refine (HP1.out _).mono ?_
  rintro e v4 ⟨⟨b9, a9, k9, c9, rfl, g9⟩, hb⟩
  replace ia := ia.below hb (Nat.le_refl _)
  replace xia := xia.on hb; clear pia pia'; obtain ⟨pia, pia'⟩ := xia.cells
  replace hB := hB.trans (hb.mono hB.size)
  clear hb
  have al := (Below.refl v4.heap.size v4).alloc (Nat.le_refl _) (.cells #[.bool b9, .slice a9 k9 c9] 26)
  have x9 := Bx.new v4 (.bool b9) (.slice a9 k9 c9)
  replace ia := ia.below al (Nat.le_refl _)
  replace g9 := g9.below al (Nat.le_refl _)
  replace xia := xia.on al; clear pia pia'; obtain ⟨pia, pia'⟩ := xia.cells
  replace hB := hB.alloc hB.size (.cells #[.bool b9, .slice a9 k9 c9] 26)
  clear al
  obtain ⟨p9, p9'⟩ := x9.cells
  go_upto_region 7 with fail
  obtain ⟨u4, hu⟩ : ∃ W : World, W = (v4.alloc (.cells #[.bool b9, .slice a9 k9 c9] 26)) := ⟨_, rfl⟩
  rw [← hu] at hB ia g9 xia x9 pia pia' p9 p9' ⊢
  clear hu
  replace hB : Below w.heap.size w u4.drew := hB.drew
  replace ia : Num u4.drew _ _ := ia
  replace g9 : Num u4.drew _ _ := g9
  replace xia : Bx u4.drew _ _ _ := xia
  replace x9 : Bx u4.drew _ _ _ := x9
  go_region_held3 (fun w' => w'.cell? ⟨w.heap.size, 0, none⟩ = some (.bool true) ∧ w'.cell? ⟨w.heap.size, 1, none⟩ = some (.slice aia kia cia) ∧ w'.cell? ⟨v4.heap.size, 0, none⟩ = some (.bool b9) ∧ w'.cell? ⟨v4.heap.size, 1, none⟩ = some (.slice a9 k9 c9))
    (first | exact ⟨pia, pia', p9, p9'⟩ | go_keep)
    (first
      | (go_at_call 30; ((with_reducible refine (HE.out _ _ _ ia g9).mono ?_); rintro e wn ⟨rfl, hb⟩; replace ia := ia.below hb (Nat.le_refl _); replace g9 := g9.below hb (Nat.le_refl _); replace xia := xia.on hb; clear pia pia'; obtain ⟨pia, pia'⟩ := xia.cells; replace x9 := x9.on hb; clear p9 p9'; obtain ⟨p9, p9'⟩ := x9.cells; replace hB := hB.trans (hb.mono hB.size); clear hb)))
  obtain ⟨u5, hcur⟩ : ∃ W : World, W = wn := ⟨_, rfl⟩
  subst hcur
  clear g9 x9 p9 p9'
  go_upto_region 10 with fail
  rw [hdd2]
  go_wp2_with fail
  have al := (Below.refl u5.heap.size u5).alloc (Nat.le_refl _) (.cells #[.int .u8 (48 + (dd : Int))] 5)
  refine (HP2.out _).mono ?_
  rintro e v6 ⟨⟨b11, a11, k11, c11, rfl, g11⟩, hb⟩
  have hX := then_below al hb
  clear al hb
  replace ia := ia.below hX (Nat.le_refl _)
  replace xia := xia.on hX; clear pia pia'; obtain ⟨pia, pia'⟩ := xia.cells
  replace hB := hB.trans (hX.mono hB.size)
  clear hX
  have l6 := xia.lt
  have al := (Below.refl v6.heap.size v6).alloc (Nat.le_refl _) (.cells #[.bool b11, .slice a11 k11 c11] 26)
  have x11 := Bx.new v6 (.bool b11) (.slice a11 k11 c11)
  replace ia := ia.below al (Nat.le_refl _)
  replace g11 := g11.below al (Nat.le_refl _)
  replace xia := xia.on al; clear pia pia'; obtain ⟨pia, pia'⟩ := xia.cells
  replace hB := hB.alloc hB.size (.cells #[.bool b11, .slice a11 k11 c11] 26)
  clear al
  obtain ⟨p11, p11'⟩ := x11.cells
  go_wp2_with fail
  refine (HNd.out _).mono ?_
  rintro e v7 ⟨⟨v, rfl, hn⟩, hb⟩
  obtain ⟨b13, a13, k13, c13, rfl⟩ := hn.opened
  have g13 := hn.num
  clear hn
  replace ia := ia.below hb (Nat.le_refl _)
  replace g11 := g11.below hb (Nat.le_refl _)
  replace xia := xia.on hb; clear pia pia'; obtain ⟨pia, pia'⟩ := xia.cells
  replace x11 := x11.on hb; clear p11 p11'; obtain ⟨p11, p11'⟩ := x11.cells
  replace hB := hB.trans (hb.mono hB.size)
  clear hb
  have l7 := x11.lt
  have al := (Below.refl v7.heap.size v7).alloc (Nat.le_refl _) (.cells #[.bool b13, .slice a13 k13 c13] 26)
  have x13 := Bx.new v7 (.bool b13) (.slice a13 k13 c13)
  replace ia := ia.below al (Nat.le_refl _)
  replace g11 := g11.below al (Nat.le_refl _)
  replace g13 := g13.below al (Nat.le_refl _)
  replace xia := xia.on al; clear pia pia'; obtain ⟨pia, pia'⟩ := xia.cells
  replace x11 := x11.on al; clear p11 p11'; obtain ⟨p11, p11'⟩ := x11.cells
  replace hB := hB.alloc hB.size (.cells #[.bool b13, .slice a13 k13 c13] 26)
  clear al
  obtain ⟨p13, p13'⟩ := x13.cells
  have hw7 : w.heap.size ≤ v7.heap.size := by have := l6; have := l7; omega
  have n7a : v7.heap.size ≠ w.heap.size := by have := l6; have := l7; omega
  have n7b : v7.heap.size ≠ v6.heap.size := by have := l7; omega
  obtain ⟨f13, f13'⟩ := x13.free
  go_wp2_with fail
  refine (HNs.out _).mono ?_
  rintro e v8 ⟨⟨v, rfl, hn⟩, hb⟩
  obtain ⟨b14, a14, k14, c14, rfl⟩ := hn.opened
  have g14 := hn.num
  clear hn
  replace ia := ia.below hb (Nat.le_refl _)
  replace g11 := g11.below hb (Nat.le_refl _)
  replace g13 := g13.below hb (Nat.le_refl _)
  replace xia := xia.on hb; clear pia pia'; obtain ⟨pia, pia'⟩ := xia.cells
  replace x11 := x11.on hb; clear p11 p11'; obtain ⟨p11, p11'⟩ := x11.cells
  replace x13 := x13.on hb; clear p13 p13'; obtain ⟨p13, p13'⟩ := x13.cells
  replace hB := hB.trans (hb.mono hB.size)
  clear hb
  clear g13 f13 f13'
  obtain ⟨f13, f13'⟩ := x13.free
  have y13 := x13.put (.bool b14) (.slice a14 k14 c14)
  have yia := xia.put_other (.bool b14) (.slice a14 k14 c14) n7a
  have y11 := x11.put_other (.bool b14) (.slice a14 k14 c14) n7b
  replace ia := ia.put x13 (.bool b14) (.slice a14 k14 c14)
  replace g11 := g11.put x13 (.bool b14) (.slice a14 k14 c14)
  replace g14 := g14.put x13 (.bool b14) (.slice a14 k14 c14)
  replace hB := Below.put hB hw7 (.bool b14) (.slice a14 k14 c14)
  go_upto_region 15 with fail
  clear xia x11 x13 pia pia' p11 p11' p13 p13' f13 f13'
  obtain ⟨pia, pia'⟩ := yia.cells
  obtain ⟨p11, p11'⟩ := y11.cells
  obtain ⟨p13, p13'⟩ := y13.cells
  have xia := yia
  have x11 := y11
  have x13 := y13
  clear yia y11 y13
  obtain ⟨u6, hu⟩ : ∃ W : World, W = ((v8.setCell ⟨v7.heap.size, 0, none⟩ (.bool b14)).setCell ⟨v7.heap.size, 1, none⟩ (.slice a14 k14 c14)) := ⟨_, rfl⟩
  rw [← hu] at hB ia g11 g14 xia x11 x13 pia pia' p11 p11' p13 p13' ⊢
  clear hu
  replace hB : Below w.heap.size w u6.drew := hB.drew
  replace ia : Num u6.drew _ _ := ia
  replace g11 : Num u6.drew _ _ := g11
  replace g14 : Num u6.drew _ _ := g14
  replace xia : Bx u6.drew _ _ _ := xia
  replace x11 : Bx u6.drew _ _ _ := x11
  replace x13 : Bx u6.drew _ _ _ := x13
  go_region_held3 (fun w' => w'.cell? ⟨w.heap.size, 0, none⟩ = some (.bool true) ∧ w'.cell? ⟨w.heap.size, 1, none⟩ = some (.slice aia kia cia) ∧ w'.cell? ⟨v6.heap.size, 0, none⟩ = some (.bool b11) ∧ w'.cell? ⟨v6.heap.size, 1, none⟩ = some (.slice a11 k11 c11) ∧ w'.cell? ⟨v7.heap.size, 0, none⟩ = some (.bool b14) ∧ w'.cell? ⟨v7.heap.size, 1, none⟩ = some (.slice a14 k14 c14))
    (first | exact ⟨pia, pia', p11, p11', p13, p13'⟩ | go_keep)
    (first
      | (go_at_call 25; ((with_reducible refine (HN10.out _).mono ?_); rintro e wn ⟨⟨v, rfl, hn⟩, hb⟩; obtain ⟨bten, aten, kten, cten, rfl⟩ := hn.opened; replace ia := ia.below hb (Nat.le_refl _); replace g11 := g11.below hb (Nat.le_refl _); replace g14 := g14.below hb (Nat.le_refl _); replace xia := xia.on hb; clear pia pia'; obtain ⟨pia, pia'⟩ := xia.cells; replace x11 := x11.on hb; clear p11 p11'; obtain ⟨p11, p11'⟩ := x11.cells; replace x13 := x13.on hb; clear p13 p13'; obtain ⟨p13, p13'⟩ := x13.cells; (try replace ten := ten.below hb (Nat.le_refl _)); (try replace pr := pr.below hb (Nat.le_refl _)); (try replace su := su.below hb (Nat.le_refl _)); replace hB := hB.trans (hb.mono hB.size); have ten := hn.num; clear hb hn))
      | (go_at_call 32; ((with_reducible refine (HM.out _ _ _ ia ten).mono ?_); rintro e wn ⟨⟨v, rfl, hn⟩, hb⟩; obtain ⟨bpr, apr, kpr, cpr, rfl⟩ := hn.opened; replace ia := ia.below hb (Nat.le_refl _); replace g11 := g11.below hb (Nat.le_refl _); replace g14 := g14.below hb (Nat.le_refl _); replace xia := xia.on hb; clear pia pia'; obtain ⟨pia, pia'⟩ := xia.cells; replace x11 := x11.on hb; clear p11 p11'; obtain ⟨p11, p11'⟩ := x11.cells; replace x13 := x13.on hb; clear p13 p13'; obtain ⟨p13, p13'⟩ := x13.cells; (try replace ten := ten.below hb (Nat.le_refl _)); (try replace pr := pr.below hb (Nat.le_refl _)); (try replace su := su.below hb (Nat.le_refl _)); replace hB := hB.trans (hb.mono hB.size); have pr := hn.num; clear hb hn))
      | (go_at_call 31; ((with_reducible refine (HSu.out _ _ _ pr g14).mono ?_); rintro e wn ⟨⟨v, rfl, hn⟩, hb⟩; obtain ⟨bsu, asu, ksu, csu, rfl⟩ := hn.opened; replace ia := ia.below hb (Nat.le_refl _); replace g11 := g11.below hb (Nat.le_refl _); replace g14 := g14.below hb (Nat.le_refl _); replace xia := xia.on hb; clear pia pia'; obtain ⟨pia, pia'⟩ := xia.cells; replace x11 := x11.on hb; clear p11 p11'; obtain ⟨p11, p11'⟩ := x11.cells; replace x13 := x13.on hb; clear p13 p13'; obtain ⟨p13, p13'⟩ := x13.cells; (try replace ten := ten.below hb (Nat.le_refl _)); (try replace pr := pr.below hb (Nat.le_refl _)); (try replace su := su.below hb (Nat.le_refl _)); replace hB := hB.trans (hb.mono hB.size); have su := hn.num; clear hb hn))
      | (go_at_call 30; ((with_reducible refine (HE2.out _ _ _ g11 su).mono ?_); rintro e wn ⟨rfl, hb⟩; replace ia := ia.below hb (Nat.le_refl _); replace g11 := g11.below hb (Nat.le_refl _); replace g14 := g14.below hb (Nat.le_refl _); replace xia := xia.on hb; clear pia pia'; obtain ⟨pia, pia'⟩ := xia.cells; replace x11 := x11.on hb; clear p11 p11'; obtain ⟨p11, p11'⟩ := x11.cells; replace x13 := x13.on hb; clear p13 p13'; obtain ⟨p13, p13'⟩ := x13.cells; (try replace ten := ten.below hb (Nat.le_refl _)); (try replace pr := pr.below hb (Nat.le_refl _)); (try replace su := su.below hb (Nat.le_refl _)); replace hB := hB.trans (hb.mono hB.size); clear hb)))
  obtain ⟨u7, hcur⟩ : ∃ W : World, W = wn := ⟨_, rfl⟩
  subst hcur
  clear g11 x11 p11 p11' x13 p13 p13' g14
  go_wp2_with fail
  refine (HP3.out _).mono ?_
  rintro e v9 ⟨(⟨hwf, rfl⟩ | ⟨hwf, b2, a2, k2, c2, rfl, n2⟩), hb⟩
  · replace hB := hB.trans (hb.mono hB.size)
    go_wp2
    go_ret
    exact ⟨rfl, hB.alloc hB.size _⟩
  · replace hB := hB.trans (hb.mono hB.size)
    replace n2 := n2.below ((Below.refl v9.heap.size v9).alloc (Nat.le_refl _) (.cells #[.bool b2, .slice a2 k2 c2] 26)) (Nat.le_refl _)
    have x14 := Bx.new v9 (.bool b2) (.slice a2 k2 c2)
    obtain ⟨p14, p14'⟩ := x14.cells
    replace hB := hB.alloc hB.size (.cells #[.bool b2, .slice a2 k2 c2] 26)
    go_wp2_with fail
    refine (HT3.out _ _ hwf n2).mono ?_
    rintro e v10 ⟨rfl, hb10⟩
    replace hB := hB.trans (hb10.mono hB.size)
    go_wp2
    go_ret
    exact ⟨rfl, hB⟩

set_option maxRecDepth 100000 in
set_option maxHeartbeats 16000000 in
theorem WholeTexts_zero (a : Int) (sa : Sz 100 a) (bia : Bool) (aia : Option Addr) (kia cia : Nat) (t : ByteArray) (ht : t.size ≤ 400) (d : Nat) (hd : d < 256) (hsg : a = 0) (w : World) (ia : Num w (.agg #[.bool bia, .slice aia kia cia]) a) :
    Calls Try.prog 9 #[.agg #[.bool bia, .slice aia kia cia], .string t, .int .u8 (d : Int)] w fun e w' => e = .returned (.bool true) ∧ Below w.heap.size w w' := by
  obtain ⟨S, hS⟩ : ∃ S : ByteArray, S.data.toList = txt a := ⟨⟨(txt a).toArray⟩, rfl⟩
  have hSl : S.data.toList.length = S.size := by simp
  obtain ⟨tl1, tl2⟩ := txt_len sa
  rw [← hS, hSl] at tl1 tl2
  obtain ⟨tw1, tw2, tw3, tw4⟩ := txt_wf a
  obtain ⟨dd, hdd⟩ : ∃ dd : Nat, dd = d % 10 := ⟨_, rfl⟩
  have dd10 : dd < 10 := by omega
  have hdd2 : ((d : Int) % 10) = (dd : Int) := by omega
  have tneg0 := neg_head tl2
  rw [hS, tw3] at tneg0
  have hc0 : ((S[0].toNat : Int) == 45) = false := by rw [decide_eq_false (by omega)] at tneg0; have := of_decide_eq_false tneg0.symm; exact beq_eq_false_iff_ne.2 (by omega)
  have HT := Lib.hid (fun v W (h : Num W v a) => Text_known v a S hS (Sz.len sa (by decide)) W h)
  have HP1 := Lib.hid (fun W => Parse_known S (txt a) a hS (by rw [← hS, hSl]; omega) tw1 tw2 (by rw [tw4]; exact Sz.len sa (by decide)) W)
  have HE := Lib.hid (fun vx vy W (h : Num W vx a) (g : Num W vy a) => equal_any vx vy a (Sz.len sa (by decide)) W h g)
  have HP3 := Lib.hid (fun W => Parse_short t ht W)
  have HT3 := Lib.hid (fun v W (hw : twf t.data.toList = true) (h : Num W v (tval t.data.toList)) => Text_known v (tval t.data.toList) t (txt_back hw).symm (by rw [tval_abs]; exact short_len hw (by have : t.data.toList.length = t.size := (by simp); omega)) W h)
  have ht4 : ¬ 400 < (t.size : Int) := by omega
  have hS0 : ((S.size : Int) == 0) = false := beq_eq_false_iff_ne.2 (by omega)
  obtain ⟨eb, lb⟩ := neg_num ia
  have ek := lim_len lb
  obtain rfl : bia = false := by rw [eb]; exact decide_eq_false (by omega)
  obtain rfl : kia = 0 := by rw [ek, hsg]; simp [dig_zero]
  clear eb lb ek tneg0 tw1 tw2 tw3 tw4 hS hSl hsg
  replace hdd := Lib.hid hdd
  have hB := ((Below.refl w.heap.size w).alloc (by simp <;> omega) (.cells #[.bool false, .slice aia 0 cia] 26))
  have xia := (Bx.new w (.bool false) (.slice aia 0 cia))
  replace ia := ia.below hB (Nat.le_refl _)
  go_enter Try.func9, Try.ntmps9
  go_wp2_with fail
  refine (awake_any _).mono ?_
  rintro e v1 ⟨rfl, hb⟩
  replace ia := ia.below hb (Nat.le_refl _)
  replace xia := xia.on hb
  obtain ⟨pia, pia'⟩ := xia.cells
  replace hB := hB.trans (hb.mono hB.size)
  clear hb
  go_wp2_with fail
  have al := (Below.refl v1.heap.size v1).alloc (Nat.le_refl _) (.cells #[.bool false, .slice aia 0 cia] 26)
  replace ia := ia.below al (Nat.le_refl _)
  replace xia := xia.on al
  replace hB := hB.alloc hB.size (.cells #[.bool false, .slice aia 0 cia] 26)
  clear al
  have HU := usable1_num' 100 v1.heap.size (by decide) a _ (by simp) (by simp) ia (Sz.len2 sa)
  refine HU.mono ?_
  clear HU
  rintro e v2 ⟨rfl, hb⟩
  clear pia pia'
  replace ia := ia.below hb (Nat.le_refl _)
  replace xia := xia.on hb
  obtain ⟨pia, pia'⟩ := xia.cells
  replace hB := hB.trans (hb.mono hB.size)
  clear hb
  go_wp2_with fail
  go_wp2_with fail
  refine (HT.out _ _ ia).mono ?_
  rintro e v3 ⟨rfl, hb⟩
  replace ia := ia.below hb (Nat.le_refl _)
  replace xia := xia.on hb; clear pia pia'; obtain ⟨pia, pia'⟩ := xia.cells
  replace hB := hB.trans (hb.mono hB.size)
  clear hb
  go_wp2_with fail
  refine (HP1.out _).mono ?_
  rintro e v4 ⟨⟨b9, a9, k9, c9, rfl, g9⟩, hb⟩
  replace ia := ia.below hb (Nat.le_refl _)
  replace xia := xia.on hb; clear pia pia'; obtain ⟨pia, pia'⟩ := xia.cells
  replace hB := hB.trans (hb.mono hB.size)
  clear hb
  have al := (Below.refl v4.heap.size v4).alloc (Nat.le_refl _) (.cells #[.bool b9, .slice a9 k9 c9] 26)
  have x9 := Bx.new v4 (.bool b9) (.slice a9 k9 c9)
  replace ia := ia.below al (Nat.le_refl _)
  replace g9 := g9.below al (Nat.le_refl _)
  replace xia := xia.on al; clear pia pia'; obtain ⟨pia, pia'⟩ := xia.cells
  replace hB := hB.alloc hB.size (.cells #[.bool b9, .slice a9 k9 c9] 26)
  clear al
  obtain ⟨p9, p9'⟩ := x9.cells
  go_upto_region 7 with fail
  obtain ⟨u4, hu⟩ : ∃ W : World, W = (v4.alloc (.cells #[.bool b9, .slice a9 k9 c9] 26)) := ⟨_, rfl⟩
  rw [← hu] at hB ia g9 xia x9 pia pia' p9 p9' ⊢
  clear hu
  replace hB : Below w.heap.size w u4.drew := hB.drew
  replace ia : Num u4.drew _ _ := ia
  replace g9 : Num u4.drew _ _ := g9
  replace xia : Bx u4.drew _ _ _ := xia
  replace x9 : Bx u4.drew _ _ _ := x9
  go_region_held3 (fun w' => w'.cell? ⟨w.heap.size, 0, none⟩ = some (.bool false) ∧ w'.cell? ⟨w.heap.size, 1, none⟩ = some (.slice aia 0 cia) ∧ w'.cell? ⟨v4.heap.size, 0, none⟩ = some (.bool b9) ∧ w'.cell? ⟨v4.heap.size, 1, none⟩ = some (.slice a9 k9 c9))
    (first | exact ⟨pia, pia', p9, p9'⟩ | go_keep)
    (first
      | (go_at_call 30; ((with_reducible refine (HE.out _ _ _ ia g9).mono ?_); rintro e wn ⟨rfl, hb⟩; replace ia := ia.below hb (Nat.le_refl _); replace g9 := g9.below hb (Nat.le_refl _); replace xia := xia.on hb; clear pia pia'; obtain ⟨pia, pia'⟩ := xia.cells; replace x9 := x9.on hb; clear p9 p9'; obtain ⟨p9, p9'⟩ := x9.cells; replace hB := hB.trans (hb.mono hB.size); clear hb)))
  obtain ⟨u5, hcur⟩ : ∃ W : World, W = wn := ⟨_, rfl⟩
  subst hcur
  clear g9 x9 p9 p9'
  go_wp2_with fail
  refine (HP3.out _).mono ?_
  rintro e v9 ⟨(⟨hwf, rfl⟩ | ⟨hwf, b2, a2, k2, c2, rfl, n2⟩), hb⟩
  · replace hB := hB.trans (hb.mono hB.size)
    go_wp2
    go_ret
    exact ⟨rfl, hB.alloc hB.size _⟩
  · replace hB := hB.trans (hb.mono hB.size)
    replace n2 := n2.below ((Below.refl v9.heap.size v9).alloc (Nat.le_refl _) (.cells #[.bool b2, .slice a2 k2 c2] 26)) (Nat.le_refl _)
    have x14 := Bx.new v9 (.bool b2) (.slice a2 k2 c2)
    obtain ⟨p14, p14'⟩ := x14.cells
    replace hB := hB.alloc hB.size (.cells #[.bool b2, .slice a2 k2 c2] 26)
    go_wp2_with fail
    refine (HT3.out _ _ hwf n2).mono ?_
    rintro e v10 ⟨rfl, hb10⟩
    replace hB := hB.trans (hb10.mono hB.size)
    go_wp2
    go_ret
    exact ⟨rfl, hB⟩

set_option maxRecDepth 100000 in
set_option maxHeartbeats 16000000 in
theorem WholeTexts_pos (a : Int) (sa : Sz 100 a) (bia : Bool) (aia : Option Addr) (kia cia : Nat) (t : ByteArray) (ht : t.size ≤ 400) (d : Nat) (hd : d < 256) (hsg : 0 < a) (w : World) (ia : Num w (.agg #[.bool bia, .slice aia kia cia]) a) :
    Calls Try.prog 9 #[.agg #[.bool bia, .slice aia kia cia], .string t, .int .u8 (d : Int)] w fun e w' => e = .returned (.bool true) ∧ Below w.heap.size w w' := by
  obtain ⟨S, hS⟩ : ∃ S : ByteArray, S.data.toList = txt a := ⟨⟨(txt a).toArray⟩, rfl⟩
  have hSl : S.data.toList.length = S.size := by simp
  obtain ⟨tl1, tl2⟩ := txt_len sa
  rw [← hS, hSl] at tl1 tl2
  obtain ⟨tw1, tw2, tw3, tw4⟩ := txt_wf a
  obtain ⟨dd, hdd⟩ : ∃ dd : Nat, dd = d % 10 := ⟨_, rfl⟩
  have dd10 : dd < 10 := by omega
  have hdd2 : ((d : Int) % 10) = (dd : Int) := by omega
  have tneg0 := neg_head tl2
  rw [hS, tw3] at tneg0
  have hc0 : ((S[0].toNat : Int) == 45) = false := by rw [decide_eq_false (by omega)] at tneg0; have := of_decide_eq_false tneg0.symm; exact beq_eq_false_iff_ne.2 (by omega)
  have HT := Lib.hid (fun v W (h : Num W v a) => Text_known v a S hS (Sz.len sa (by decide)) W h)
  have HP1 := Lib.hid (fun W => Parse_known S (txt a) a hS (by rw [← hS, hSl]; omega) tw1 tw2 (by rw [tw4]; exact Sz.len sa (by decide)) W)
  have HE := Lib.hid (fun vx vy W (h : Num W vx a) (g : Num W vy a) => equal_any vx vy a (Sz.len sa (by decide)) W h g)
  have HP3 := Lib.hid (fun W => Parse_short t ht W)
  have HT3 := Lib.hid (fun v W (hw : twf t.data.toList = true) (h : Num W v (tval t.data.toList)) => Text_known v (tval t.data.toList) t (txt_back hw).symm (by rw [tval_abs]; exact short_len hw (by have : t.data.toList.length = t.size := (by simp); omega)) W h)
  obtain ⟨ts1, ts2, ts3⟩ := txt_snoc (z := a) (by omega) dd10
  rw [if_neg (by omega)] at ts2
  obtain ⟨z2, hz2⟩ : ∃ z2 : Int, z2 = a * 10 + (dd : Int) := ⟨_, rfl⟩
  rw [← hz2] at ts2
  have sst : Sz 1 ((dd : Int)) := Sz.small (by omega)
  have s10 : Sz 101 (a * 10) := Sz.mul sa (Sz.small (z := 10) (by decide))
  have sz2 : Sz 102 z2 := by rw [hz2]; exact Sz.add s10 sst
  have HP2 := Lib.hid (fun W => Parse_known (S ++ strOfNums [48 + (dd : Int)]) (txt a ++ [dbyte dd]) z2 (by rw [show (48 + (dd : Int)) = ((48 + dd : Nat) : Int) by omega, snoc_bytes, hS]) (by rw [List.length_append, ← hS, hSl]; simp; omega) ts1 ts2 (by have e : 10 * a.natAbs + dd = z2.natAbs := (by omega); rw [ts3, e]; exact Sz.len sz2 (by decide)) W)
  have HNs := Lib.hid (fun W => num_any ((dd : Int)) (by omega) (by omega) W)
  have HNd := Lib.hid (fun W => num_any (dd : Int) (by omega) (by omega) W)
  have HN10 := Lib.hid (fun W => num_any 10 (by decide) (by decide) W)
  have HM := Lib.hid (fun vx vy W (h : Num W vx a) (g : Num W vy 10) => law_product_any vx vy a 10 (a * 10) rfl (Sz.len sa (by decide)) (Sz.len (Sz.small (z := 10) (by decide)) (by decide)) (Sz.len s10 (by decide)) W h g)
  have HSu := Lib.hid (fun vx vy W (h : Num W vx (a * 10)) (g : Num W vy ((dd : Int))) => law_sum_any vx vy (a * 10) ((dd : Int)) z2 hz2.symm (Sz.len s10 (by decide)) (Sz.len sst (by decide)) (Sz.len sz2 (by decide)) W h g)
  have HE2 := Lib.hid (fun vx vy W (h : Num W vx z2) (g : Num W vy z2) => equal_any vx vy z2 (Sz.len sz2 (by decide)) W h g)
  have hcv := fun (w : World) (x : Int) (g : Nat) (hg : g = w.heap.size) => one_byte w x 5 g hg
  have hone : (strOfNums [48 + (dd : Int)]).size = 1 := strOfNums_size _
  clear ts1 ts2 ts3 hz2 sst s10 sz2
  have ht4 : ¬ 400 < (t.size : Int) := by omega
  have hS0 : ((S.size : Int) == 0) = false := beq_eq_false_iff_ne.2 (by omega)
  obtain ⟨eb, lb⟩ := neg_num ia
  have ek := lim_len lb
  obtain rfl : bia = false := by rw [eb]; exact decide_eq_false (by omega)
  have hk0 : 0 < (kia : Int) := by have := dig_pos_len (show a.natAbs ≠ 0 by omega); omega
  clear eb lb ek tneg0 tw1 tw2 tw3 tw4 hS hSl hsg
  replace hdd := Lib.hid hdd
  have hB := ((Below.refl w.heap.size w).alloc (by simp <;> omega) (.cells #[.bool false, .slice aia kia cia] 26))
  have xia := (Bx.new w (.bool false) (.slice aia kia cia))
  replace ia := ia.below hB (Nat.le_refl _)
  go_enter Try.func9, Try.ntmps9
  go_wp2_with fail
  refine (awake_any _).mono ?_
  rintro e v1 ⟨rfl, hb⟩
  replace ia := ia.below hb (Nat.le_refl _)
  replace xia := xia.on hb
  obtain ⟨pia, pia'⟩ := xia.cells
  replace hB := hB.trans (hb.mono hB.size)
  clear hb
  go_wp2_with fail
  have al := (Below.refl v1.heap.size v1).alloc (Nat.le_refl _) (.cells #[.bool false, .slice aia kia cia] 26)
  replace ia := ia.below al (Nat.le_refl _)
  replace xia := xia.on al
  replace hB := hB.alloc hB.size (.cells #[.bool false, .slice aia kia cia] 26)
  clear al
  have HU := usable1_num' 100 v1.heap.size (by decide) a _ (by simp) (by simp) ia (Sz.len2 sa)
  refine HU.mono ?_
  clear HU
  rintro e v2 ⟨rfl, hb⟩
  clear pia pia'
  replace ia := ia.below hb (Nat.le_refl _)
  replace xia := xia.on hb
  obtain ⟨pia, pia'⟩ := xia.cells
  replace hB := hB.trans (hb.mono hB.size)
  clear hb
  go_wp2_with fail
  go_wp2_with fail
  refine (HT.out _ _ ia).mono ?_
  rintro e v3 ⟨rfl, hb⟩
  replace ia := ia.below hb (Nat.le_refl _)
  replace xia := xia.on hb; clear pia pia'; obtain ⟨pia, pia'⟩ := xia.cells
  replace hB := hB.trans (hb.mono hB.size)
  clear hb
  go_wp2_with fail
  refine (HP1.out _).mono ?_
  rintro e v4 ⟨⟨b9, a9, k9, c9, rfl, g9⟩, hb⟩
  replace ia := ia.below hb (Nat.le_refl _)
  replace xia := xia.on hb; clear pia pia'; obtain ⟨pia, pia'⟩ := xia.cells
  replace hB := hB.trans (hb.mono hB.size)
  clear hb
  have al := (Below.refl v4.heap.size v4).alloc (Nat.le_refl _) (.cells #[.bool b9, .slice a9 k9 c9] 26)
  have x9 := Bx.new v4 (.bool b9) (.slice a9 k9 c9)
  replace ia := ia.below al (Nat.le_refl _)
  replace g9 := g9.below al (Nat.le_refl _)
  replace xia := xia.on al; clear pia pia'; obtain ⟨pia, pia'⟩ := xia.cells
  replace hB := hB.alloc hB.size (.cells #[.bool b9, .slice a9 k9 c9] 26)
  clear al
  obtain ⟨p9, p9'⟩ := x9.cells
  go_upto_region 7 with fail
  obtain ⟨u4, hu⟩ : ∃ W : World, W = (v4.alloc (.cells #[.bool b9, .slice a9 k9 c9] 26)) := ⟨_, rfl⟩
  rw [← hu] at hB ia g9 xia x9 pia pia' p9 p9' ⊢
  clear hu
  replace hB : Below w.heap.size w u4.drew := hB.drew
  replace ia : Num u4.drew _ _ := ia
  replace g9 : Num u4.drew _ _ := g9
  replace xia : Bx u4.drew _ _ _ := xia
  replace x9 : Bx u4.drew _ _ _ := x9
  go_region_held3 (fun w' => w'.cell? ⟨w.heap.size, 0, none⟩ = some (.bool false) ∧ w'.cell? ⟨w.heap.size, 1, none⟩ = some (.slice aia kia cia) ∧ w'.cell? ⟨v4.heap.size, 0, none⟩ = some (.bool b9) ∧ w'.cell? ⟨v4.heap.size, 1, none⟩ = some (.slice a9 k9 c9))
    (first | exact ⟨pia, pia', p9, p9'⟩ | go_keep)
    (first
      | (go_at_call 30; ((with_reducible refine (HE.out _ _ _ ia g9).mono ?_); rintro e wn ⟨rfl, hb⟩; replace ia := ia.below hb (Nat.le_refl _); replace g9 := g9.below hb (Nat.le_refl _); replace xia := xia.on hb; clear pia pia'; obtain ⟨pia, pia'⟩ := xia.cells; replace x9 := x9.on hb; clear p9 p9'; obtain ⟨p9, p9'⟩ := x9.cells; replace hB := hB.trans (hb.mono hB.size); clear hb)))
  obtain ⟨u5, hcur⟩ : ∃ W : World, W = wn := ⟨_, rfl⟩
  subst hcur
  clear g9 x9 p9 p9'
  go_upto_region 10 with fail
  rw [hdd2]
  go_wp2_with fail
  have al := (Below.refl u5.heap.size u5).alloc (Nat.le_refl _) (.cells #[.int .u8 (48 + (dd : Int))] 5)
  refine (HP2.out _).mono ?_
  rintro e v6 ⟨⟨b11, a11, k11, c11, rfl, g11⟩, hb⟩
  have hX := then_below al hb
  clear al hb
  replace ia := ia.below hX (Nat.le_refl _)
  replace xia := xia.on hX; clear pia pia'; obtain ⟨pia, pia'⟩ := xia.cells
  replace hB := hB.trans (hX.mono hB.size)
  clear hX
  have l6 := xia.lt
  have al := (Below.refl v6.heap.size v6).alloc (Nat.le_refl _) (.cells #[.bool b11, .slice a11 k11 c11] 26)
  have x11 := Bx.new v6 (.bool b11) (.slice a11 k11 c11)
  replace ia := ia.below al (Nat.le_refl _)
  replace g11 := g11.below al (Nat.le_refl _)
  replace xia := xia.on al; clear pia pia'; obtain ⟨pia, pia'⟩ := xia.cells
  replace hB := hB.alloc hB.size (.cells #[.bool b11, .slice a11 k11 c11] 26)
  clear al
  obtain ⟨p11, p11'⟩ := x11.cells
  go_wp2_with fail
  refine (HNd.out _).mono ?_
  rintro e v7 ⟨⟨v, rfl, hn⟩, hb⟩
  obtain ⟨b13, a13, k13, c13, rfl⟩ := hn.opened
  have g13 := hn.num
  clear hn
  replace ia := ia.below hb (Nat.le_refl _)
  replace g11 := g11.below hb (Nat.le_refl _)
  replace xia := xia.on hb; clear pia pia'; obtain ⟨pia, pia'⟩ := xia.cells
  replace x11 := x11.on hb; clear p11 p11'; obtain ⟨p11, p11'⟩ := x11.cells
  replace hB := hB.trans (hb.mono hB.size)
  clear hb
  have l7 := x11.lt
  have al := (Below.refl v7.heap.size v7).alloc (Nat.le_refl _) (.cells #[.bool b13, .slice a13 k13 c13] 26)
  have x13 := Bx.new v7 (.bool b13) (.slice a13 k13 c13)
  replace ia := ia.below al (Nat.le_refl _)
  replace g11 := g11.below al (Nat.le_refl _)
  replace g13 := g13.below al (Nat.le_refl _)
  replace xia := xia.on al; clear pia pia'; obtain ⟨pia, pia'⟩ := xia.cells
  replace x11 := x11.on al; clear p11 p11'; obtain ⟨p11, p11'⟩ := x11.cells
  replace hB := hB.alloc hB.size (.cells #[.bool b13, .slice a13 k13 c13] 26)
  clear al
  obtain ⟨p13, p13'⟩ := x13.cells
  go_upto_region 15 with fail
  obtain ⟨u6, hu⟩ : ∃ W : World, W = (v7.alloc (.cells #[.bool b13, .slice a13 k13 c13] 26)) := ⟨_, rfl⟩
  rw [← hu] at hB ia g11 g13 xia x11 x13 pia pia' p11 p11' p13 p13' ⊢
  clear hu
  replace hB : Below w.heap.size w u6.drew := hB.drew
  replace ia : Num u6.drew _ _ := ia
  replace g11 : Num u6.drew _ _ := g11
  replace g13 : Num u6.drew _ _ := g13
  replace xia : Bx u6.drew _ _ _ := xia
  replace x11 : Bx u6.drew _ _ _ := x11
  replace x13 : Bx u6.drew _ _ _ := x13
  go_region_held3 (fun w' => w'.cell? ⟨w.heap.size, 0, none⟩ = some (.bool false) ∧ w'.cell? ⟨w.heap.size, 1, none⟩ = some (.slice aia kia cia) ∧ w'.cell? ⟨v6.heap.size, 0, none⟩ = some (.bool b11) ∧ w'.cell? ⟨v6.heap.size, 1, none⟩ = some (.slice a11 k11 c11) ∧ w'.cell? ⟨v7.heap.size, 0, none⟩ = some (.bool b13) ∧ w'.cell? ⟨v7.heap.size, 1, none⟩ = some (.slice a13 k13 c13))
    (first | exact ⟨pia, pia', p11, p11', p13, p13'⟩ | go_keep)
    (first
      | (go_at_call 25; ((with_reducible refine (HN10.out _).mono ?_); rintro e wn ⟨⟨v, rfl, hn⟩, hb⟩; obtain ⟨bten, aten, kten, cten, rfl⟩ := hn.opened; replace ia := ia.below hb (Nat.le_refl _); replace g11 := g11.below hb (Nat.le_refl _); replace g13 := g13.below hb (Nat.le_refl _); replace xia := xia.on hb; clear pia pia'; obtain ⟨pia, pia'⟩ := xia.cells; replace x11 := x11.on hb; clear p11 p11'; obtain ⟨p11, p11'⟩ := x11.cells; replace x13 := x13.on hb; clear p13 p13'; obtain ⟨p13, p13'⟩ := x13.cells; (try replace ten := ten.below hb (Nat.le_refl _)); (try replace pr := pr.below hb (Nat.le_refl _)); (try replace su := su.below hb (Nat.le_refl _)); replace hB := hB.trans (hb.mono hB.size); have ten := hn.num; clear hb hn))
      | (go_at_call 32; ((with_reducible refine (HM.out _ _ _ ia ten).mono ?_); rintro e wn ⟨⟨v, rfl, hn⟩, hb⟩; obtain ⟨bpr, apr, kpr, cpr, rfl⟩ := hn.opened; replace ia := ia.below hb (Nat.le_refl _); replace g11 := g11.below hb (Nat.le_refl _); replace g13 := g13.below hb (Nat.le_refl _); replace xia := xia.on hb; clear pia pia'; obtain ⟨pia, pia'⟩ := xia.cells; replace x11 := x11.on hb; clear p11 p11'; obtain ⟨p11, p11'⟩ := x11.cells; replace x13 := x13.on hb; clear p13 p13'; obtain ⟨p13, p13'⟩ := x13.cells; (try replace ten := ten.below hb (Nat.le_refl _)); (try replace pr := pr.below hb (Nat.le_refl _)); (try replace su := su.below hb (Nat.le_refl _)); replace hB := hB.trans (hb.mono hB.size); have pr := hn.num; clear hb hn))
      | (go_at_call 31; ((with_reducible refine (HSu.out _ _ _ pr g13).mono ?_); rintro e wn ⟨⟨v, rfl, hn⟩, hb⟩; obtain ⟨bsu, asu, ksu, csu, rfl⟩ := hn.opened; replace ia := ia.below hb (Nat.le_refl _); replace g11 := g11.below hb (Nat.le_refl _); replace g13 := g13.below hb (Nat.le_refl _); replace xia := xia.on hb; clear pia pia'; obtain ⟨pia, pia'⟩ := xia.cells; replace x11 := x11.on hb; clear p11 p11'; obtain ⟨p11, p11'⟩ := x11.cells; replace x13 := x13.on hb; clear p13 p13'; obtain ⟨p13, p13'⟩ := x13.cells; (try replace ten := ten.below hb (Nat.le_refl _)); (try replace pr := pr.below hb (Nat.le_refl _)); (try replace su := su.below hb (Nat.le_refl _)); replace hB := hB.trans (hb.mono hB.size); have su := hn.num; clear hb hn))
      | (go_at_call 30; ((with_reducible refine (HE2.out _ _ _ g11 su).mono ?_); rintro e wn ⟨rfl, hb⟩; replace ia := ia.below hb (Nat.le_refl _); replace g11 := g11.below hb (Nat.le_refl _); replace g13 := g13.below hb (Nat.le_refl _); replace xia := xia.on hb; clear pia pia'; obtain ⟨pia, pia'⟩ := xia.cells; replace x11 := x11.on hb; clear p11 p11'; obtain ⟨p11, p11'⟩ := x11.cells; replace x13 := x13.on hb; clear p13 p13'; obtain ⟨p13, p13'⟩ := x13.cells; (try replace ten := ten.below hb (Nat.le_refl _)); (try replace pr := pr.below hb (Nat.le_refl _)); (try replace su := su.below hb (Nat.le_refl _)); replace hB := hB.trans (hb.mono hB.size); clear hb)))
  obtain ⟨u7, hcur⟩ : ∃ W : World, W = wn := ⟨_, rfl⟩
  subst hcur
  clear g11 x11 p11 p11' x13 p13 p13' g13
  go_wp2_with fail
  refine (HP3.out _).mono ?_
  rintro e v9 ⟨(⟨hwf, rfl⟩ | ⟨hwf, b2, a2, k2, c2, rfl, n2⟩), hb⟩
  · replace hB := hB.trans (hb.mono hB.size)
    go_wp2
    go_ret
    exact ⟨rfl, hB.alloc hB.size _⟩
  · replace hB := hB.trans (hb.mono hB.size)
    replace n2 := n2.below ((Below.refl v9.heap.size v9).alloc (Nat.le_refl _) (.cells #[.bool b2, .slice a2 k2 c2] 26)) (Nat.le_refl _)
    have x14 := Bx.new v9 (.bool b2) (.slice a2 k2 c2)
    obtain ⟨p14, p14'⟩ := x14.cells
    replace hB := hB.alloc hB.size (.cells #[.bool b2, .slice a2 k2 c2] 26)
    go_wp2_with fail
    refine (HT3.out _ _ hwf n2).mono ?_
    rintro e v10 ⟨rfl, hb10⟩
    replace hB := hB.trans (hb10.mono hB.size)
    go_wp2
    go_ret
    exact ⟨rfl, hB⟩

end Go.Proofs.Ytodmbklednehbaa
