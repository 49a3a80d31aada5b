/- A part of the proofs about fractions. -/
import Derived.Test.YthlclegajldphaaGreatQz1
import Derived.Test.YthlclegajldphaaGreatQz2
import Derived.Test.YthlclegajldphaaGreatQz3
import Derived.Test.YthlclegajldphaaGreatQz4
import Derived.Test.YthlclegajldphaaGreatQz5
import Derived.Test.YthlclegajldphaaGreatQz6
import Derived.Test.YthlclegajldphaaGreatQz7
import Derived.Test.YthlclegajldphaaGreatQz8
import Derived.Test.YthlclegajldphaaGreatQz9
import Derived.Test.YthlclegajldphaaGreatQz10
import Derived.Test.YthlclegajldphaaGreatQz11
import Derived.Test.YthlclegajldphaaGreatQz12
import Derived.Test.YthlclegajldphaaGreatQz13
import Derived.Test.YthlclegajldphaaGreatQz14
import Derived.Test.YthlclegajldphaaGreatQz15
import Derived.Test.YthlclegajldphaaGreatQz16
import Derived.Test.YthlclegajldphaaGreatQz17
import Derived.Test.YthlclegajldphaaGreatQz18
import Derived.Test.YthlclegajldphaaGreatQz19
import Derived.Test.YthlclegajldphaaGreatQz20
import Derived.Test.YthlclegajldphaaGreatQz21
import Derived.Test.YthlclegajldphaaGreatQz22
import Derived.Test.YthlclegajldphaaGreatQz23
import Derived.Test.YthlclegajldphaaGreatQz24
import Derived.Test.YthlclegajldphaaGreatQz25
import Derived.Test.YthlclegajldphaaGreatQz26
import Derived.Test.YthlclegajldphaaGreatQz27
import Derived.Test.YthlclegajldphaaGreatQz28
import Derived.Test.YthlclegajldphaaGreatRows
import Derived.Test.YthlclegajldphaaGreatQFloors1
namespace Go.Proofs.YthlclegajldphaaGreat
open Go.RowKit Wh
theorem num_of_one {a : Rat} (hd : a.den = 1) : ((a.num : Int) : Rat) = a := Fq.ext (Rat.num_intCast _) (by rw [Rat.den_intCast, hd])
theorem divInt_one (z : Int) : Rat.divInt z 1 = (z : Rat) := by
  obtain ⟨h1, h2⟩ := Fq.num_den_of (n := z) (d := 1) (by decide) (by simp)
  exact Fq.ext (by rw [h1, Rat.num_intCast]) (by rw [Rat.den_intCast]; omega)
theorem den_one_of {a : Rat} (h : a.num % (a.den : Int) = 0) : a.den = 1 := by
  have h1 : (a.den : Int) ∣ a.num := Int.dvd_of_emod_eq_zero h
  have h2 : a.den ∣ a.num.natAbs := by have := Int.natAbs_dvd_natAbs.2 h1; rwa [Int.natAbs_natCast] at this
  have h3 : Nat.gcd a.num.natAbs a.den = a.den := Nat.gcd_eq_right h2
  rw [← h3]; exact a.reduced
theorem neg_floor {n d : Int} (hd : 0 < d) (h : n % d ≠ 0) : (-n) / d = -(n / d + 1) := by
  have h1 := Int.mul_ediv_add_emod n d
  have h2 := Int.emod_nonneg n (show d ≠ 0 by omega)
  have h3 := Int.emod_lt_of_pos n hd
  have h4 : -n = (d - n % d) + d * (-(n / d + 1)) := by
    have : d * (-(n / d + 1)) = - (d * (n/d)) - d := by grind
    rw [this]; omega
  rw [h4, Int.add_mul_ediv_left _ _ (by omega), Int.ediv_eq_zero_of_lt (by omega) (by omega)]
  omega
theorem Add_num (va vb : Value) (a b z : Int) (hz : a + b = z) (ha : (dig a.natAbs).length ≤ 1024) (hb : (dig b.natAbs).length ≤ 1024) (hlen : (dig z.natAbs).length ≤ 1024) (w : World) (h : Num w va a) (g : Num w vb b) :
    Calls Tryz.prog 59 #[va, vb] w fun e w' => (∃ v, e = .returned (.tuple #[v, .int .i64 0]) ∧ Num w' v z) ∧ Below w.heap.size w w' := by
  subst hz
  exact (Add_ok va vb a b ha hb w h g hlen).mono fun _ _ ⟨⟨v, he, q⟩, hb⟩ => ⟨⟨v, he, q.num⟩, hb⟩
theorem Same_lit2 (va vb : Value) (p q : Int) (r : Bool) (hr : decide (p = q) = r) (w : World) (h : Num w va p) (g : Num w vb q) :
    Calls Tryz.prog 56 #[va, vb] w fun e w' => e = .returned (.bool r) ∧ Below w.heap.size w w' := by
  have := Same_num va vb p q w h g
  rwa [hr] at this
set_option maxRecDepth 100000 in
set_option maxHeartbeats 8000000 in
theorem FracFloors_A (a : Rat) (sa : Fz 40 40 a) (bia : Bool) (aia : Option Addr) (kia cia : Nat) (dia : Bool) (eia : Option Addr) (lia mia : Nat) (hd : a.den = 1) (z1 : -9223372036854775808 ≤ a.num) (z2 : a.num ≤ 9223372036854775807) (w : World) (ia : Fra w (.agg #[.bool bia, .slice aia kia cia, .bool dia, .slice eia lia mia]) a) :
    Calls Tryz.prog 10 #[.agg #[.bool bia, .slice aia kia cia, .bool dia, .slice eia lia mia]] w fun e w' => e = .returned (.bool true) ∧ Below w.heap.size w w' := by
  have hq : Fz 256 256 a := sa.mono (by decide) (by decide)
  obtain ⟨f, ef⟩ : ∃ f, f = a.num / (a.den : Int) := ⟨_, rfl⟩
  have sf : Sz 40 f := by rw [ef]; exact floor_sz sa.1
  have hfl : (f : Rat) ≤ a := by rw [ef, ← Rat.floor_def]; exact Rat.floor_le a
  have hfu : a < ((f + 1 : Int) : Rat) := by rw [ef, ← Rat.floor_def]; exact Rat.lt_floor_add_one a
  have s1 : Sz 41 (1 : Int) := (Sz.small (by decide)).mono (by decide)
  have hm : a.num % (a.den : Int) = 0 := by rw [hd]; exact Int.emod_one _
  have ea : f = a.num := by rw [ef, hd]; exact Int.ediv_one _
  have e2 : (f : Rat) = a := by rw [ea]; exact num_of_one hd
  obtain ⟨g, eg⟩ : ∃ g, g = f := ⟨_, rfl⟩
  have hg : (if a.num % (a.den : Int) = 0 then a.num / (a.den : Int) else a.num / (a.den : Int) + 1) = g := by rw [if_pos hm, eg, ef]
  have hn : (-a).num / ((-a).den : Int) = -g := by rw [(Fq.neg_num a).1, (Fq.neg_num a).2, eg, ea, hd]; exact Int.ediv_one _
  have c1 : cmpR (f : Rat) a = 0 := cmpR_same e2
  have c2 : cmpR (g : Rat) a = 0 := cmpR_same (by rw [eg]; exact e2)
  have sg : Sz 41 g := by rw [eg]; exact sf.mono (by decide)
  have sf1 : Sz 41 f := sf.mono (by decide)
  have HN1 := Lib.hid (fun W => refFromInt_num 1 (by decide) (by decide) W)
  have HF := Lib.hid (fun va W (h : Fra W va a) => frFloor_lit va a f ef.symm hq W h)
  have HC := Lib.hid (fun va W (h : Fra W va a) => frCeil_lit va a g hg hq W h)
  have HM := Lib.hid (fun va W (h : Fra W va a) => frNeg_lit va a (-a) rfl hq W h)
  have HO := Lib.hid (fun va W (h : Fra W va (-a)) => frFloor_lit va (-a) (-g) hn (Fz.neg hq) W h)
  have HL := Lib.hid (fun va vb W (h : Num W va f) (k : Num W vb 1) => frMake_lit va vb f 1 (f : Rat) (divInt_one f) (sf.mono (by decide)) ((Sz.small (by decide)).mono (by decide)) (by decide) ((Fz.int sf1).mono (by decide) (by decide)) W h k)
  have HH := Lib.hid (fun va vb W (h : Num W va g) (k : Num W vb 1) => frMake_lit va vb g 1 (g : Rat) (divInt_one g) (sg.mono (by decide)) ((Sz.small (by decide)).mono (by decide)) (by decide) ((Fz.int sg).mono (by decide) (by decide)) W h k)
  have HA := Lib.hid (fun va vb W (h : Num W va f) (k : Num W vb 1) => Add_num va vb f 1 (f + 1) rfl (sf1.len (by decide)) (s1.len (by decide)) ((Sz.add sf1 s1).len (by decide)) W h k)
  have HS := Lib.hid (fun va vb W (h : Num W va g) (k : Num W vb (-g)) => Add_num va vb g (-g) 0 (by omega) (sg.len (by decide)) (sg.neg.len (by decide)) ((Sz.small (z := 0) (by decide)).len (by decide)) W h k)
  have HK1 := Lib.hid (fun va vb W (h : Fra W va (f : Rat)) (k : Fra W vb a) => frCmp_lit va vb (f : Rat) a (0) c1 ((Fz.int sf1).mono (by decide) (by decide)) hq W h k)
  have HK2 := Lib.hid (fun va vb W (h : Fra W va (g : Rat)) (k : Fra W vb a) => frCmp_lit va vb (g : Rat) a (0) c2 ((Fz.int sg).mono (by decide) (by decide)) hq W h k)
  have HI := Lib.hid (fun W (h : Fra W (.agg #[.bool bia, .slice aia kia cia, .bool dia, .slice eia lia mia]) a) => frInt_ok bia aia kia cia dia eia lia mia a hq hd z1 z2 W h)
  have HJ := Lib.hid (fun W => frFromInt_lit a.num a (num_of_one hd) z1 z2 W)
  have HK3 := Lib.hid (fun va vb W (h : Fra W va a) (k : Fra W vb a) => frCmp_lit va vb a a 0 (cmpR_same rfl) hq hq W h k)
  have HT := Lib.hid (fun va vb W (h : Num W va f) (k : Num W vb g) => Same_lit2 va vb f g true (decide_eq_true eg.symm) W h k)
  clear hd z1 z2 hm ea e2 eg hg hn c1 c2 ef hfl hfu hq sf sg sf1 s1
  obtain ⟨zi, hzi⟩ : ∃ z, z = a.num := ⟨_, rfl⟩
  rw [← hzi] at HI HJ
  clear hzi
  have hB := Below.refl w.heap.size w
  obtain ⟨al, xia, hN⟩ := mk hB #[.bool bia, .slice aia kia cia, .bool dia, .slice eia lia mia] 26
  replace ia := ia.on al
  replace hB := hN
  clear al hN
  try simp only [World.size_alloc] at xia
  go_enter Tryz.func10, Tryz.ntmps10
  go_wp2_with fail
  refine (law2_awake_any _).mono ?_
  rintro e w1 ⟨rfl, hb⟩
  replace xia := xia.on hb
  replace ia := ia.on hb
  have hz1 := hb.size
  try simp at hz1
  replace hB := hB.trans (hb.mono hB.size)
  clear hb
  have pia := xia.all4
  have ltia := xia.lt
  go_wp2_with fail
  clear ltia
  clear pia
  have hb := ((Below.refl w1.heap.size w1).alloc (Nat.le_refl _) (.cells #[.bool bia, .slice aia kia cia, .bool dia, .slice eia lia mia] 26))
  have xrow : Bk _ w1.heap.size #[.bool bia, .slice aia kia cia, .bool dia, .slice eia lia mia] 26 := (Bk.new w1 #[.bool bia, .slice aia kia cia, .bool dia, .slice eia lia mia] 26)
  replace xia := xia.on hb
  replace ia := ia.on hb
  replace hB := hB.trans (hb.mono hB.size)
  clear hb
  have rw0 := xrow.cell 0
  have rw1 := xrow.cell 1
  have rw2 := xrow.cell 2
  have rw3 := xrow.cell 3
  simp only [List.getElem?_toArray, List.getElem?_cons_zero, List.getElem?_cons_succ] at rw0 rw1 rw2 rw3
  refine (usable1_fra w1.heap.size a bia aia kia cia dia eia lia mia _ rw0 rw1 rw2 rw3 ia sa).mono ?_
  rintro e w2 ⟨rfl, hb⟩
  clear xrow rw0 rw1 rw2 rw3
  replace xia := xia.on hb
  replace ia := ia.on hb
  replace hB := hB.trans (hb.mono hB.size)
  clear hb
  have pia := xia.all4
  have ltia := xia.lt
  go_wp2_with fail
  clear ltia
  clear pia
  refine (HN1.out _).mono ?_
  rintro e w3 ⟨⟨v, rfl, fo1⟩, hb⟩
  obtain ⟨bx1, ax1, kx1, cx1, rfl⟩ := fo1.opened
  replace xia := xia.on hb
  replace ia := ia.on hb
  have hz3 := hb.size
  try simp at hz3
  replace hB := hB.trans (hb.mono hB.size)
  clear hb
  have pia := xia.all4
  have ltia := xia.lt
  go_wp2_with fail
  clear ltia
  clear pia
  have hb := ((Below.refl w3.heap.size w3).alloc (Nat.le_refl _) (.cells #[.bool bx1, .slice ax1 kx1 cx1] 24))
  have xone : Bk _ w3.heap.size #[.bool bx1, .slice ax1 kx1 cx1] 24 := (Bk.new w3 #[.bool bx1, .slice ax1 kx1 cx1] 24)
  replace xia := xia.on hb
  replace ia := ia.on hb
  replace fo1 := fo1.on hb
  replace hB := hB.trans (hb.mono hB.size)
  clear hb
  obtain ⟨qone, hqone⟩ : ∃ W, W = (w3.alloc (.cells #[.bool bx1, .slice ax1 kx1 cx1] 24)) := ⟨_, rfl⟩
  rw [← hqone] at hB xia xone ia fo1 ⊢
  clear hqone
  refine (HF.out _ _ ia).mono ?_
  rintro e w4 ⟨⟨v, rfl, ff⟩, hb⟩
  obtain ⟨bx2, ax2, kx2, cx2, rfl⟩ := ff.opened
  replace xia := xia.on hb
  replace xone := xone.on hb
  replace ia := ia.on hb
  replace fo1 := fo1.on hb
  have hz4 := hb.size
  try simp at hz4
  replace hB := hB.trans (hb.mono hB.size)
  clear hb
  have pia := xia.all4
  have pone := xone.all2
  have ltia := xia.lt
  have ltone := xone.lt
  go_wp2_with fail
  clear ltia
  clear ltone
  clear pia pone
  have hb := ((Below.refl w4.heap.size w4).alloc (Nat.le_refl _) (.cells #[.bool bx2, .slice ax2 kx2 cx2] 24))
  have xm : Bk _ w4.heap.size #[.bool bx2, .slice ax2 kx2 cx2] 24 := (Bk.new w4 #[.bool bx2, .slice ax2 kx2 cx2] 24)
  replace xia := xia.on hb
  replace xone := xone.on hb
  replace ia := ia.on hb
  replace fo1 := fo1.on hb
  replace ff := ff.on hb
  replace hB := hB.trans (hb.mono hB.size)
  clear hb
  obtain ⟨qm, hqm⟩ : ∃ W, W = (w4.alloc (.cells #[.bool bx2, .slice ax2 kx2 cx2] 24)) := ⟨_, rfl⟩
  rw [← hqm] at hB xia xone xm ia fo1 ff ⊢
  clear hqm
  refine (HC.out _ _ ia).mono ?_
  rintro e w5 ⟨⟨v, rfl, fg⟩, hb⟩
  obtain ⟨bx3, ax3, kx3, cx3, rfl⟩ := fg.opened
  replace xia := xia.on hb
  replace xone := xone.on hb
  replace xm := xm.on hb
  replace ia := ia.on hb
  replace fo1 := fo1.on hb
  replace ff := ff.on hb
  have hz5 := hb.size
  try simp at hz5
  replace hB := hB.trans (hb.mono hB.size)
  clear hb
  have pia := xia.all4
  have pone := xone.all2
  have pm := xm.all2
  have ltia := xia.lt
  have ltone := xone.lt
  have ltm := xm.lt
  go_wp2_with fail
  clear ltia
  clear ltone
  clear ltm
  clear pia pone pm
  have hb := ((Below.refl w5.heap.size w5).alloc (Nat.le_refl _) (.cells #[.bool bx3, .slice ax3 kx3 cx3] 24))
  have xn : Bk _ w5.heap.size #[.bool bx3, .slice ax3 kx3 cx3] 24 := (Bk.new w5 #[.bool bx3, .slice ax3 kx3 cx3] 24)
  replace xia := xia.on hb
  replace xone := xone.on hb
  replace xm := xm.on hb
  replace ia := ia.on hb
  replace fo1 := fo1.on hb
  replace ff := ff.on hb
  replace fg := fg.on hb
  replace hB := hB.trans (hb.mono hB.size)
  clear hb
  obtain ⟨qn, hqn⟩ : ∃ W, W = (w5.alloc (.cells #[.bool bx3, .slice ax3 kx3 cx3] 24)) := ⟨_, rfl⟩
  rw [← hqn] at hB xia xone xm xn ia fo1 ff fg ⊢
  clear hqn
  refine (HM.out _ _ ia).mono ?_
  rintro e w6 ⟨⟨v, rfl, fm⟩, hb⟩
  obtain ⟨bx4, ax4, kx4, cx4, dx4, ex4, lx4, mx4, rfl⟩ := fm.opened
  replace xia := xia.on hb
  replace xone := xone.on hb
  replace xm := xm.on hb
  replace xn := xn.on hb
  replace ia := ia.on hb
  replace fo1 := fo1.on hb
  replace ff := ff.on hb
  replace fg := fg.on hb
  have hz6 := hb.size
  try simp at hz6
  replace hB := hB.trans (hb.mono hB.size)
  clear hb
  have pia := xia.all4
  have pone := xone.all2
  have pm := xm.all2
  have pn := xn.all2
  have ltia := xia.lt
  have ltone := xone.lt
  have ltm := xm.lt
  have ltn := xn.lt
  go_wp2_with fail
  clear ltia
  clear ltone
  clear ltm
  clear ltn
  clear pia pone pm pn
  have hb := ((Below.refl w6.heap.size w6).alloc (Nat.le_refl _) (.cells #[.bool bx4, .slice ax4 kx4 cx4, .bool dx4, .slice ex4 lx4 mx4] 26))
  have xmi : Bk _ w6.heap.size #[.bool bx4, .slice ax4 kx4 cx4, .bool dx4, .slice ex4 lx4 mx4] 26 := (Bk.new w6 #[.bool bx4, .slice ax4 kx4 cx4, .bool dx4, .slice ex4 lx4 mx4] 26)
  replace xia := xia.on hb
  replace xone := xone.on hb
  replace xm := xm.on hb
  replace xn := xn.on hb
  replace ia := ia.on hb
  replace fo1 := fo1.on hb
  replace ff := ff.on hb
  replace fg := fg.on hb
  replace fm := fm.on hb
  replace hB := hB.trans (hb.mono hB.size)
  clear hb
  obtain ⟨qmi, hqmi⟩ : ∃ W, W = (w6.alloc (.cells #[.bool bx4, .slice ax4 kx4 cx4, .bool dx4, .slice ex4 lx4 mx4] 26)) := ⟨_, rfl⟩
  rw [← hqmi] at hB xia xone xm xn xmi ia fo1 ff fg fm ⊢
  clear hqmi
  refine (HO.out _ _ fm).mono ?_
  rintro e w7 ⟨⟨v, rfl, fo⟩, hb⟩
  obtain ⟨bx5, ax5, kx5, cx5, rfl⟩ := fo.opened
  replace xia := xia.on hb
  replace xone := xone.on hb
  replace xm := xm.on hb
  replace xn := xn.on hb
  replace xmi := xmi.on hb
  replace ia := ia.on hb
  replace fo1 := fo1.on hb
  replace ff := ff.on hb
  replace fg := fg.on hb
  replace fm := fm.on hb
  have hz7 := hb.size
  try simp at hz7
  replace hB := hB.trans (hb.mono hB.size)
  clear hb
  have pia := xia.all4
  have pone := xone.all2
  have pm := xm.all2
  have pn := xn.all2
  have pmi := xmi.all4
  have ltia := xia.lt
  have ltone := xone.lt
  have ltm := xm.lt
  have ltn := xn.lt
  have ltmi := xmi.lt
  go_wp2_with fail
  clear ltia
  clear ltone
  clear ltm
  clear ltn
  clear ltmi
  clear pia pone pm pn pmi
  have hb := ((Below.refl w7.heap.size w7).alloc (Nat.le_refl _) (.cells #[.bool bx5, .slice ax5 kx5 cx5] 24))
  have xo : Bk _ w7.heap.size #[.bool bx5, .slice ax5 kx5 cx5] 24 := (Bk.new w7 #[.bool bx5, .slice ax5 kx5 cx5] 24)
  replace xia := xia.on hb
  replace xone := xone.on hb
  replace xm := xm.on hb
  replace xn := xn.on hb
  replace xmi := xmi.on hb
  replace ia := ia.on hb
  replace fo1 := fo1.on hb
  replace ff := ff.on hb
  replace fg := fg.on hb
  replace fm := fm.on hb
  replace fo := fo.on hb
  replace hB := hB.trans (hb.mono hB.size)
  clear hb
  obtain ⟨qo, hqo⟩ : ∃ W, W = (w7.alloc (.cells #[.bool bx5, .slice ax5 kx5 cx5] 24)) := ⟨_, rfl⟩
  rw [← hqo] at hB xia xone xm xn xmi xo ia fo1 ff fg fm fo ⊢
  clear hqo
  clear fm
  clear xmi
  refine (HL.out _ _ _ ff fo1).mono ?_
  rintro e w8 ⟨⟨v, rfl, fl⟩, hb⟩
  obtain ⟨bx6, ax6, kx6, cx6, dx6, ex6, lx6, mx6, rfl⟩ := fl.opened
  replace xia := xia.on hb
  replace xone := xone.on hb
  replace xm := xm.on hb
  replace xn := xn.on hb
  replace xo := xo.on hb
  replace ia := ia.on hb
  replace fo1 := fo1.on hb
  replace ff := ff.on hb
  replace fg := fg.on hb
  replace fo := fo.on hb
  have hz8 := hb.size
  try simp at hz8
  replace hB := hB.trans (hb.mono hB.size)
  clear hb
  have pia := xia.all4
  have pone := xone.all2
  have pm := xm.all2
  have pn := xn.all2
  have po := xo.all2
  have ltia := xia.lt
  have ltone := xone.lt
  have ltm := xm.lt
  have ltn := xn.lt
  have lto := xo.lt
  go_wp2_with fail
  clear ltia
  clear ltone
  clear ltm
  clear ltn
  clear lto
  clear pia pone pm pn po
  have hb := ((Below.refl w8.heap.size w8).alloc (Nat.le_refl _) (.cells #[.bool bx6, .slice ax6 kx6 cx6, .bool dx6, .slice ex6 lx6 mx6] 26))
  have xlo : Bk _ w8.heap.size #[.bool bx6, .slice ax6 kx6 cx6, .bool dx6, .slice ex6 lx6 mx6] 26 := (Bk.new w8 #[.bool bx6, .slice ax6 kx6 cx6, .bool dx6, .slice ex6 lx6 mx6] 26)
  replace xia := xia.on hb
  replace xone := xone.on hb
  replace xm := xm.on hb
  replace xn := xn.on hb
  replace xo := xo.on hb
  replace ia := ia.on hb
  replace fo1 := fo1.on hb
  replace ff := ff.on hb
  replace fg := fg.on hb
  replace fo := fo.on hb
  replace fl := fl.on hb
  replace hB := hB.trans (hb.mono hB.size)
  clear hb
  obtain ⟨qlo, hqlo⟩ : ∃ W, W = (w8.alloc (.cells #[.bool bx6, .slice ax6 kx6 cx6, .bool dx6, .slice ex6 lx6 mx6] 26)) := ⟨_, rfl⟩
  rw [← hqlo] at hB xia xone xm xn xo xlo ia fo1 ff fg fo fl ⊢
  clear hqlo
  refine (HH.out _ _ _ fg fo1).mono ?_
  rintro e w9 ⟨⟨v, rfl, fh⟩, hb⟩
  obtain ⟨bx7, ax7, kx7, cx7, dx7, ex7, lx7, mx7, rfl⟩ := fh.opened
  replace xia := xia.on hb
  replace xone := xone.on hb
  replace xm := xm.on hb
  replace xn := xn.on hb
  replace xo := xo.on hb
  replace xlo := xlo.on hb
  replace ia := ia.on hb
  replace fo1 := fo1.on hb
  replace ff := ff.on hb
  replace fg := fg.on hb
  replace fo := fo.on hb
  replace fl := fl.on hb
  have hz9 := hb.size
  try simp at hz9
  replace hB := hB.trans (hb.mono hB.size)
  clear hb
  have pia := xia.all4
  have pone := xone.all2
  have pm := xm.all2
  have pn := xn.all2
  have po := xo.all2
  have plo := xlo.all4
  have ltia := xia.lt
  have ltone := xone.lt
  have ltm := xm.lt
  have ltn := xn.lt
  have lto := xo.lt
  have ltlo := xlo.lt
  go_wp2_with fail
  clear ltia
  clear ltone
  clear ltm
  clear ltn
  clear lto
  clear ltlo
  clear pia pone pm pn po plo
  have hb := ((Below.refl w9.heap.size w9).alloc (Nat.le_refl _) (.cells #[.bool bx7, .slice ax7 kx7 cx7, .bool dx7, .slice ex7 lx7 mx7] 26))
  have xhi : Bk _ w9.heap.size #[.bool bx7, .slice ax7 kx7 cx7, .bool dx7, .slice ex7 lx7 mx7] 26 := (Bk.new w9 #[.bool bx7, .slice ax7 kx7 cx7, .bool dx7, .slice ex7 lx7 mx7] 26)
  replace xia := xia.on hb
  replace xone := xone.on hb
  replace xm := xm.on hb
  replace xn := xn.on hb
  replace xo := xo.on hb
  replace xlo := xlo.on hb
  replace ia := ia.on hb
  replace fo1 := fo1.on hb
  replace ff := ff.on hb
  replace fg := fg.on hb
  replace fo := fo.on hb
  replace fl := fl.on hb
  replace fh := fh.on hb
  replace hB := hB.trans (hb.mono hB.size)
  clear hb
  obtain ⟨qhi, hqhi⟩ : ∃ W, W = (w9.alloc (.cells #[.bool bx7, .slice ax7 kx7 cx7, .bool dx7, .slice ex7 lx7 mx7] 26)) := ⟨_, rfl⟩
  rw [← hqhi] at hB xia xone xm xn xo xlo xhi ia fo1 ff fg fo fl fh ⊢
  clear hqhi
  refine (HA.out _ _ _ ff fo1).mono ?_
  rintro e w10 ⟨⟨v, rfl, fx⟩, hb⟩
  obtain ⟨bx8, ax8, kx8, cx8, rfl⟩ := fx.opened
  replace xia := xia.on hb
  replace xone := xone.on hb
  replace xm := xm.on hb
  replace xn := xn.on hb
  replace xo := xo.on hb
  replace xlo := xlo.on hb
  replace xhi := xhi.on hb
  replace ia := ia.on hb
  replace fo1 := fo1.on hb
  replace ff := ff.on hb
  replace fg := fg.on hb
  replace fo := fo.on hb
  replace fl := fl.on hb
  replace fh := fh.on hb
  have hz10 := hb.size
  try simp at hz10
  replace hB := hB.trans (hb.mono hB.size)
  clear hb
  have pia := xia.all4
  have pone := xone.all2
  have pm := xm.all2
  have pn := xn.all2
  have po := xo.all2
  have plo := xlo.all4
  have phi := xhi.all4
  have ltia := xia.lt
  have ltone := xone.lt
  have ltm := xm.lt
  have ltn := xn.lt
  have lto := xo.lt
  have ltlo := xlo.lt
  have lthi := xhi.lt
  go_wp2_with fail
  clear ltia
  clear ltone
  clear ltm
  clear ltn
  clear lto
  clear ltlo
  clear lthi
  clear pia pone pm pn po plo phi
  have hb := ((Below.refl w10.heap.size w10).alloc (Nat.le_refl _) (.cells #[.bool bx8, .slice ax8 kx8 cx8] 24))
  have xne : Bk _ w10.heap.size #[.bool bx8, .slice ax8 kx8 cx8] 24 := (Bk.new w10 #[.bool bx8, .slice ax8 kx8 cx8] 24)
  replace xia := xia.on hb
  replace xone := xone.on hb
  replace xm := xm.on hb
  replace xn := xn.on hb
  replace xo := xo.on hb
  replace xlo := xlo.on hb
  replace xhi := xhi.on hb
  replace ia := ia.on hb
  replace fo1 := fo1.on hb
  replace ff := ff.on hb
  replace fg := fg.on hb
  replace fo := fo.on hb
  replace fl := fl.on hb
  replace fh := fh.on hb
  replace fx := fx.on hb
  replace hB := hB.trans (hb.mono hB.size)
  clear hb
  obtain ⟨qne, hqne⟩ : ∃ W, W = (w10.alloc (.cells #[.bool bx8, .slice ax8 kx8 cx8] 24)) := ⟨_, rfl⟩
  rw [← hqne] at hB xia xone xm xn xo xlo xhi xne ia fo1 ff fg fo fl fh fx ⊢
  clear hqne
  clear fo1
  clear xone
  refine (HS.out _ _ _ fg fo).mono ?_
  rintro e w11 ⟨⟨v, rfl, fs⟩, hb⟩
  obtain ⟨bx9, ax9, kx9, cx9, rfl⟩ := fs.opened
  have hk9 := (num_len fs).1
  rw [show (0 : Int).natAbs = 0 from rfl, dig_zero, List.length_nil] at hk9
  subst hk9
  clear fs
  replace xia := xia.on hb
  replace xm := xm.on hb
  replace xn := xn.on hb
  replace xo := xo.on hb
  replace xlo := xlo.on hb
  replace xhi := xhi.on hb
  replace xne := xne.on hb
  replace ia := ia.on hb
  replace ff := ff.on hb
  replace fg := fg.on hb
  replace fo := fo.on hb
  replace fl := fl.on hb
  replace fh := fh.on hb
  replace fx := fx.on hb
  have hz11 := hb.size
  try simp at hz11
  replace hB := hB.trans (hb.mono hB.size)
  clear hb
  clear fo
  clear xo
  have pia := xia.all4
  have pm := xm.all2
  have pn := xn.all2
  have plo := xlo.all4
  have phi := xhi.all4
  have pne := xne.all2
  have ltia := xia.lt
  have ltm := xm.lt
  have ltn := xn.lt
  have ltlo := xlo.lt
  have lthi := xhi.lt
  have ltne := xne.lt
  go_wp2_with fail
  clear ltia
  clear ltm
  clear ltn
  clear ltlo
  clear lthi
  clear ltne
  clear pia pm pn plo phi pne
  have hb := ((Below.refl w11.heap.size w11).alloc (Nat.le_refl _) (.cells #[.bool bx9, .slice ax9 0 cx9] 24))
  have xsu : Bk _ w11.heap.size #[.bool bx9, .slice ax9 0 cx9] 24 := (Bk.new w11 #[.bool bx9, .slice ax9 0 cx9] 24)
  replace xia := xia.on hb
  replace xm := xm.on hb
  replace xn := xn.on hb
  replace xlo := xlo.on hb
  replace xhi := xhi.on hb
  replace xne := xne.on hb
  replace ia := ia.on hb
  replace ff := ff.on hb
  replace fg := fg.on hb
  replace fl := fl.on hb
  replace fh := fh.on hb
  replace fx := fx.on hb
  replace hB := hB.trans (hb.mono hB.size)
  clear hb
  obtain ⟨qsu, hqsu⟩ : ∃ W, W = (w11.alloc (.cells #[.bool bx9, .slice ax9 0 cx9] 24)) := ⟨_, rfl⟩
  rw [← hqsu] at hB xia xm xn xlo xhi xne xsu ia ff fg fl fh fx ⊢
  clear hqsu
  refine (HK1.out _ _ _ fl ia).mono ?_
  rintro e w12 ⟨rfl, hb⟩
  replace xia := xia.on hb
  replace xm := xm.on hb
  replace xn := xn.on hb
  replace xlo := xlo.on hb
  replace xhi := xhi.on hb
  replace xne := xne.on hb
  replace xsu := xsu.on hb
  replace ia := ia.on hb
  replace ff := ff.on hb
  replace fg := fg.on hb
  replace fl := fl.on hb
  replace fh := fh.on hb
  replace fx := fx.on hb
  have hz12 := hb.size
  try simp at hz12
  replace hB := hB.trans (hb.mono hB.size)
  clear hb
  have pia := xia.all4
  have pm := xm.all2
  have pn := xn.all2
  have plo := xlo.all4
  have phi := xhi.all4
  have pne := xne.all2
  have psu := xsu.all2
  have ltia := xia.lt
  have ltm := xm.lt
  have ltn := xn.lt
  have ltlo := xlo.lt
  have lthi := xhi.lt
  have ltne := xne.lt
  have ltsu := xsu.lt
  go_wp2_with fail
  clear ltia
  clear ltm
  clear ltn
  clear ltlo
  clear lthi
  clear ltne
  clear ltsu
  clear pia pm pn plo phi pne psu
  refine (HK2.out _ _ _ fh ia).mono ?_
  rintro e w13 ⟨rfl, hb⟩
  replace xia := xia.on hb
  replace xm := xm.on hb
  replace xn := xn.on hb
  replace xlo := xlo.on hb
  replace xhi := xhi.on hb
  replace xne := xne.on hb
  replace xsu := xsu.on hb
  replace ia := ia.on hb
  replace ff := ff.on hb
  replace fg := fg.on hb
  replace fl := fl.on hb
  replace fh := fh.on hb
  replace fx := fx.on hb
  have hz13 := hb.size
  try simp at hz13
  replace hB := hB.trans (hb.mono hB.size)
  clear hb
  have pia := xia.all4
  have pm := xm.all2
  have pn := xn.all2
  have plo := xlo.all4
  have phi := xhi.all4
  have pne := xne.all2
  have psu := xsu.all2
  have ltia := xia.lt
  have ltm := xm.lt
  have ltn := xn.lt
  have ltlo := xlo.lt
  have lthi := xhi.lt
  have ltne := xne.lt
  have ltsu := xsu.lt
  go_wp2_with fail
  clear ltia
  clear ltm
  clear ltn
  clear ltlo
  clear lthi
  clear ltne
  clear ltsu
  clear pia pm pn plo phi pne psu
  refine (HK1.out _ _ _ fl ia).mono ?_
  rintro e w14 ⟨rfl, hb⟩
  replace xia := xia.on hb
  replace xm := xm.on hb
  replace xn := xn.on hb
  replace xlo := xlo.on hb
  replace xhi := xhi.on hb
  replace xne := xne.on hb
  replace xsu := xsu.on hb
  replace ia := ia.on hb
  replace ff := ff.on hb
  replace fg := fg.on hb
  replace fl := fl.on hb
  replace fh := fh.on hb
  replace fx := fx.on hb
  have hz14 := hb.size
  try simp at hz14
  replace hB := hB.trans (hb.mono hB.size)
  clear hb
  have pia := xia.all4
  have pm := xm.all2
  have pn := xn.all2
  have plo := xlo.all4
  have phi := xhi.all4
  have pne := xne.all2
  have psu := xsu.all2
  have ltia := xia.lt
  have ltm := xm.lt
  have ltn := xn.lt
  have ltlo := xlo.lt
  have lthi := xhi.lt
  have ltne := xne.lt
  have ltsu := xsu.lt
  go_wp2_with fail
  clear ltia
  clear ltm
  clear ltn
  clear ltlo
  clear lthi
  clear ltne
  clear ltsu
  clear pia pm pn plo phi pne psu
  refine (HI.out _ ia).mono ?_
  rintro e w15 ⟨rfl, hb⟩
  replace xia := xia.on hb
  replace xm := xm.on hb
  replace xn := xn.on hb
  replace xlo := xlo.on hb
  replace xhi := xhi.on hb
  replace xne := xne.on hb
  replace xsu := xsu.on hb
  replace ia := ia.on hb
  replace ff := ff.on hb
  replace fg := fg.on hb
  replace fl := fl.on hb
  replace fh := fh.on hb
  replace fx := fx.on hb
  have hz15 := hb.size
  try simp at hz15
  replace hB := hB.trans (hb.mono hB.size)
  clear hb
  have pia := xia.all4
  have pm := xm.all2
  have pn := xn.all2
  have plo := xlo.all4
  have phi := xhi.all4
  have pne := xne.all2
  have psu := xsu.all2
  have ltia := xia.lt
  have ltm := xm.lt
  have ltn := xn.lt
  have ltlo := xlo.lt
  have lthi := xhi.lt
  have ltne := xne.lt
  have ltsu := xsu.lt
  go_wp2_with fail
  clear ltia
  clear ltm
  clear ltn
  clear ltlo
  clear lthi
  clear ltne
  clear ltsu
  clear pia pm pn plo phi pne psu
  have qm := xm.lt
  have qn := xn.lt
  have qia := xia.lt
  obtain ⟨gm0, gm1⟩ := xm.cells2
  obtain ⟨gn0, gn1⟩ := xn.cells2
  obtain ⟨gia0, gia1, gia2, gia3⟩ := xia.cells4
  refine wp_region_noPanic ?_
  refine wp_region_held_drew (S := (fun w' => w'.cell? ⟨w4.heap.size, 0, none⟩ = some (.bool bx2) ∧ w'.cell? ⟨w4.heap.size, 1, none⟩ = some (.slice ax2 kx2 cx2) ∧ w'.cell? ⟨w5.heap.size, 0, none⟩ = some (.bool bx3) ∧ w'.cell? ⟨w5.heap.size, 1, none⟩ = some (.slice ax3 kx3 cx3) ∧ w'.cell? ⟨w.heap.size, 0, none⟩ = some (.bool bia) ∧ w'.cell? ⟨w.heap.size, 1, none⟩ = some (.slice aia kia cia) ∧ w'.cell? ⟨w.heap.size, 2, none⟩ = some (.bool dia) ∧ w'.cell? ⟨w.heap.size, 3, none⟩ = some (.slice eia lia mia))) (by kernel_rfl) ⟨gm0, gm1, gn0, gn1, ⟨gia0, gia1, gia2, gia3⟩⟩ (fun hR0 => ?_)
  change wpAnyH _ _ _ _ _ 19 #[false, false, false, false, false, false, false, false, false, false, false, false, false, false, false, false, false, false, false] _ _
  clear gm0 gm1 gn0 gn1 gia0 gia1 gia2 gia3
  refine tk (i := 0) (v := ?_) rfl (by kernel_rfl) (fun _ _ _ h => h) (by rfl) ?_ (by assumption) ?_
  rotate_left 1
  · (intro w hSw; (try dsimp only at hSw); go_simp <;> (with_reducible rfl))
  (first | ((fail_if_success (unfold Act.put)); (try simp only [List.setIfInBounds_toArray, List.set])) | (try simp only [Act.put, List.setIfInBounds_toArray, List.set]))
  refine tk (i := 1) (v := ?_) rfl (by kernel_rfl) (fun _ _ _ h => h) (by rfl) ?_ (by assumption) ?_
  rotate_left 1
  · (intro w hSw; (try dsimp only at hSw); go_simp <;> (with_reducible rfl))
  (first | ((fail_if_success (unfold Act.put)); (try simp only [List.setIfInBounds_toArray, List.set])) | (try simp only [Act.put, List.setIfInBounds_toArray, List.set]))
  refine rd1 (i := 2) (by kernel_rfl) rfl (fun K hK => ?_)
  go_simp
  go_at_call 56; have hBd := hB.drew; refine (HT.out _ _ _ (by exact ff) (by exact fg)).mono ?_; rintro e w16 ⟨rfl, hb⟩; replace hb := (Below.refl w15.heap.size w15).drew.trans hb; replace xia := xia.on hb; replace xm := xm.on hb; replace xn := xn.on hb; replace xlo := xlo.on hb; replace xhi := xhi.on hb; replace xne := xne.on hb; replace xsu := xsu.on hb; replace ia := ia.on hb; replace ff := ff.on hb; replace fg := fg.on hb; replace fl := fl.on hb; replace fh := fh.on hb; replace fx := fx.on hb; replace hB := hB.trans (hb.mono hB.size); have hz16 := hb.size
  (try go_wp2_with fail)
  refine hK.out _ _ (⟨(hb.cell (p := ⟨w4.heap.size, 0, none⟩) qm).trans hR0.1, (hb.cell (p := ⟨w4.heap.size, 1, none⟩) qm).trans hR0.2.1, (hb.cell (p := ⟨w5.heap.size, 0, none⟩) qn).trans hR0.2.2.1, (hb.cell (p := ⟨w5.heap.size, 1, none⟩) qn).trans hR0.2.2.2.1, keep4 hb qia hR0.2.2.2.2⟩) (fun hR1 => ?_)
  clear hK K hR0
  (first | ((fail_if_success (unfold Act.put)); (try simp only [List.setIfInBounds_toArray, List.set])) | (try simp only [Act.put, List.setIfInBounds_toArray, List.set]))
  replace qm := Nat.lt_of_lt_of_le qm hz16
  replace qn := Nat.lt_of_lt_of_le qn hz16
  replace qia := Nat.lt_of_lt_of_le qia hz16
  clear hb hBd
  refine tk (i := 3) (v := ?_) rfl (by kernel_rfl) (fun _ _ _ h => h) (by rfl) ?_ (by assumption) ?_
  rotate_left 1
  · (intro w hSw; (try dsimp only at hSw); go_simp <;> (with_reducible rfl))
  (first | ((fail_if_success (unfold Act.put)); (try simp only [List.setIfInBounds_toArray, List.set])) | (try simp only [Act.put, List.setIfInBounds_toArray, List.set]))
  refine tk (i := 4) (v := ?_) rfl (by kernel_rfl) (fun _ _ _ h => h) (by rfl) ?_ (by assumption) ?_
  rotate_left 1
  · (intro w hSw; (try dsimp only at hSw); go_simp <;> (with_reducible rfl))
  (first | ((fail_if_success (unfold Act.put)); (try simp only [List.setIfInBounds_toArray, List.set])) | (try simp only [Act.put, List.setIfInBounds_toArray, List.set]))
  refine tk (i := 5) (v := ?_) rfl (by kernel_rfl) (fun _ _ _ h => h) (by rfl) ?_ (by assumption) ?_
  rotate_left 1
  · (intro w hSw; (try dsimp only at hSw); go_simp <;> (with_reducible rfl))
  (first | ((fail_if_success (unfold Act.put)); (try simp only [List.setIfInBounds_toArray, List.set])) | (try simp only [Act.put, List.setIfInBounds_toArray, List.set]))
  refine tk (i := 6) (v := ?_) rfl (by kernel_rfl) (fun _ _ _ h => h) (by rfl) ?_ (by assumption) ?_
  rotate_left 1
  · (intro w hSw; (try dsimp only at hSw); go_simp <;> (with_reducible rfl))
  (first | ((fail_if_success (unfold Act.put)); (try simp only [List.setIfInBounds_toArray, List.set])) | (try simp only [Act.put, List.setIfInBounds_toArray, List.set]))
  refine tk (i := 7) (v := ?_) rfl (by kernel_rfl) (fun _ _ _ h => h) (by rfl) ?_ (by assumption) ?_
  rotate_left 1
  · (intro w hSw; (try dsimp only at hSw); go_simp <;> (with_reducible rfl))
  (first | ((fail_if_success (unfold Act.put)); (try simp only [List.setIfInBounds_toArray, List.set])) | (try simp only [Act.put, List.setIfInBounds_toArray, List.set]))
  refine tk (i := 8) (v := ?_) rfl (by kernel_rfl) (fun _ _ _ h => h) (by rfl) ?_ (by assumption) ?_
  rotate_left 1
  · (intro w hSw; (try dsimp only at hSw); go_simp <;> (with_reducible rfl))
  (first | ((fail_if_success (unfold Act.put)); (try simp only [List.setIfInBounds_toArray, List.set])) | (try simp only [Act.put, List.setIfInBounds_toArray, List.set]))
  refine tk (i := 9) (v := ?_) rfl (by kernel_rfl) (fun _ _ _ h => h) (by rfl) ?_ (by assumption) ?_
  rotate_left 1
  · (intro w hSw; (try dsimp only at hSw); go_simp <;> (with_reducible rfl))
  (first | ((fail_if_success (unfold Act.put)); (try simp only [List.setIfInBounds_toArray, List.set])) | (try simp only [Act.put, List.setIfInBounds_toArray, List.set]))
  refine tk (i := 10) (v := ?_) rfl (by kernel_rfl) (fun _ _ _ h => h) (by rfl) ?_ (by assumption) ?_
  rotate_left 1
  · (intro w hSw; (try dsimp only at hSw); go_simp <;> (with_reducible rfl))
  (first | ((fail_if_success (unfold Act.put)); (try simp only [List.setIfInBounds_toArray, List.set])) | (try simp only [Act.put, List.setIfInBounds_toArray, List.set]))
  refine tk (i := 11) (v := ?_) rfl (by kernel_rfl) (fun _ _ _ h => h) (by rfl) ?_ (by assumption) ?_
  rotate_left 1
  · (intro w hSw; (try dsimp only at hSw); go_simp <;> (with_reducible rfl))
  (first | ((fail_if_success (unfold Act.put)); (try simp only [List.setIfInBounds_toArray, List.set])) | (try simp only [Act.put, List.setIfInBounds_toArray, List.set]))
  refine tk (i := 13) (v := ?_) rfl (by kernel_rfl) (fun _ _ _ h => h) (by rfl) ?_ (by assumption) ?_
  rotate_left 1
  · (intro w hSw; (try dsimp only at hSw); go_simp <;> (with_reducible rfl))
  (first | ((fail_if_success (unfold Act.put)); (try simp only [List.setIfInBounds_toArray, List.set])) | (try simp only [Act.put, List.setIfInBounds_toArray, List.set]))
  refine rd1 (i := 12) (by kernel_rfl) rfl (fun K hK => ?_)
  go_simp
  go_at_call 23; have hBd := hB; refine (HJ.out _).mono ?_; rintro e w17 ⟨⟨vj, rfl, fj⟩, hb⟩; replace xia := xia.on hb; replace xm := xm.on hb; replace xn := xn.on hb; replace xlo := xlo.on hb; replace xhi := xhi.on hb; replace xne := xne.on hb; replace xsu := xsu.on hb; replace ia := ia.on hb; replace ff := ff.on hb; replace fg := fg.on hb; replace fl := fl.on hb; replace fh := fh.on hb; replace fx := fx.on hb; replace hB := hB.trans (hb.mono hB.size); have hz17 := hb.size
  (try go_wp2_with fail)
  refine hK.out _ _ (⟨(hb.cell (p := ⟨w4.heap.size, 0, none⟩) qm).trans hR1.1, (hb.cell (p := ⟨w4.heap.size, 1, none⟩) qm).trans hR1.2.1, (hb.cell (p := ⟨w5.heap.size, 0, none⟩) qn).trans hR1.2.2.1, (hb.cell (p := ⟨w5.heap.size, 1, none⟩) qn).trans hR1.2.2.2.1, keep4 hb qia hR1.2.2.2.2⟩) (fun hR2 => ?_)
  clear hK K hR1
  (first | ((fail_if_success (unfold Act.put)); (try simp only [List.setIfInBounds_toArray, List.set])) | (try simp only [Act.put, List.setIfInBounds_toArray, List.set]))
  replace qm := Nat.lt_of_lt_of_le qm hz17
  replace qn := Nat.lt_of_lt_of_le qn hz17
  replace qia := Nat.lt_of_lt_of_le qia hz17
  clear hb hBd
  refine rd1 (i := 14) (by kernel_rfl) rfl (fun K hK => ?_)
  go_simp
  go_at_call 52; have hBd := hB; refine (HK3.out _ _ _ fj ia).mono ?_; rintro e w18 ⟨rfl, hb⟩; replace xia := xia.on hb; replace xm := xm.on hb; replace xn := xn.on hb; replace xlo := xlo.on hb; replace xhi := xhi.on hb; replace xne := xne.on hb; replace xsu := xsu.on hb; replace ia := ia.on hb; replace ff := ff.on hb; replace fg := fg.on hb; replace fl := fl.on hb; replace fh := fh.on hb; replace fx := fx.on hb; replace fj := fj.on hb; replace hB := hB.trans (hb.mono hB.size); have hz18 := hb.size
  (try go_wp2_with fail)
  refine hK.out _ _ (⟨(hb.cell (p := ⟨w4.heap.size, 0, none⟩) qm).trans hR2.1, (hb.cell (p := ⟨w4.heap.size, 1, none⟩) qm).trans hR2.2.1, (hb.cell (p := ⟨w5.heap.size, 0, none⟩) qn).trans hR2.2.2.1, (hb.cell (p := ⟨w5.heap.size, 1, none⟩) qn).trans hR2.2.2.2.1, keep4 hb qia hR2.2.2.2.2⟩) (fun hR3 => ?_)
  clear hK K hR2
  (first | ((fail_if_success (unfold Act.put)); (try simp only [List.setIfInBounds_toArray, List.set])) | (try simp only [Act.put, List.setIfInBounds_toArray, List.set]))
  replace qm := Nat.lt_of_lt_of_le qm hz18
  replace qn := Nat.lt_of_lt_of_le qn hz18
  replace qia := Nat.lt_of_lt_of_le qia hz18
  clear hb hBd
  refine tk (i := 15) (v := ?_) rfl (by kernel_rfl) (fun _ _ _ h => h) (by rfl) ?_ (by assumption) ?_
  rotate_left 1
  · (intro w hSw; (try dsimp only at hSw); go_simp <;> (with_reducible rfl))
  (first | ((fail_if_success (unfold Act.put)); (try simp only [List.setIfInBounds_toArray, List.set])) | (try simp only [Act.put, List.setIfInBounds_toArray, List.set]))
  refine tk (i := 16) (v := ?_) rfl (by kernel_rfl) (fun _ _ _ h => h) (by rfl) ?_ (by assumption) ?_
  rotate_left 1
  · (intro w hSw; (try dsimp only at hSw); go_simp <;> (with_reducible rfl))
  (first | ((fail_if_success (unfold Act.put)); (try simp only [List.setIfInBounds_toArray, List.set])) | (try simp only [Act.put, List.setIfInBounds_toArray, List.set]))
  refine tk (i := 17) (v := ?_) rfl (by kernel_rfl) (fun _ _ _ h => h) (by rfl) ?_ (by assumption) ?_
  rotate_left 1
  · (intro w hSw; (try dsimp only at hSw); go_simp <;> (with_reducible rfl))
  (first | ((fail_if_success (unfold Act.put)); (try simp only [List.setIfInBounds_toArray, List.set])) | (try simp only [Act.put, List.setIfInBounds_toArray, List.set]))
  refine tk (i := 18) (v := ?_) rfl (by kernel_rfl) (fun _ _ _ h => h) (by rfl) ?_ (by assumption) ?_
  rotate_left 1
  · (intro w hSw; (try dsimp only at hSw); go_simp <;> (with_reducible rfl))
  (first | ((fail_if_success (unfold Act.put)); (try simp only [List.setIfInBounds_toArray, List.set])) | (try simp only [Act.put, List.setIfInBounds_toArray, List.set]))
  refine wpAnyH_done (by kernel_rfl) ?_ _
  refine NoPanic.normal ?_
  clear hR3
  clear qm qn qia
  go_wp2
  go_ret
  exact ⟨rfl, hB⟩
set_option maxRecDepth 100000 in
set_option maxHeartbeats 8000000 in
theorem FracFloors_B (a : Rat) (sa : Fz 40 40 a) (bia : Bool) (aia : Option Addr) (kia cia : Nat) (dia : Bool) (eia : Option Addr) (lia mia : Nat) (hd : a.den = 1) (hr : a.num < -9223372036854775808 ∨ 9223372036854775807 < a.num) (w : World) (ia : Fra w (.agg #[.bool bia, .slice aia kia cia, .bool dia, .slice eia lia mia]) a) :
    Calls Tryz.prog 10 #[.agg #[.bool bia, .slice aia kia cia, .bool dia, .slice eia lia mia]] w fun e w' => e = .returned (.bool true) ∧ Below w.heap.size w w' := by
  have hq : Fz 256 256 a := sa.mono (by decide) (by decide)
  obtain ⟨f, ef⟩ : ∃ f, f = a.num / (a.den : Int) := ⟨_, rfl⟩
  have sf : Sz 40 f := by rw [ef]; exact floor_sz sa.1
  have hfl : (f : Rat) ≤ a := by rw [ef, ← Rat.floor_def]; exact Rat.floor_le a
  have hfu : a < ((f + 1 : Int) : Rat) := by rw [ef, ← Rat.floor_def]; exact Rat.lt_floor_add_one a
  have s1 : Sz 41 (1 : Int) := (Sz.small (by decide)).mono (by decide)
  have hm : a.num % (a.den : Int) = 0 := by rw [hd]; exact Int.emod_one _
  have ea : f = a.num := by rw [ef, hd]; exact Int.ediv_one _
  have e2 : (f : Rat) = a := by rw [ea]; exact num_of_one hd
  obtain ⟨g, eg⟩ : ∃ g, g = f := ⟨_, rfl⟩
  have hg : (if a.num % (a.den : Int) = 0 then a.num / (a.den : Int) else a.num / (a.den : Int) + 1) = g := by rw [if_pos hm, eg, ef]
  have hn : (-a).num / ((-a).den : Int) = -g := by rw [(Fq.neg_num a).1, (Fq.neg_num a).2, eg, ea, hd]; exact Int.ediv_one _
  have c1 : cmpR (f : Rat) a = 0 := cmpR_same e2
  have c2 : cmpR (g : Rat) a = 0 := cmpR_same (by rw [eg]; exact e2)
  have sg : Sz 41 g := by rw [eg]; exact sf.mono (by decide)
  have sf1 : Sz 41 f := sf.mono (by decide)
  have HN1 := Lib.hid (fun W => refFromInt_num 1 (by decide) (by decide) W)
  have HF := Lib.hid (fun va W (h : Fra W va a) => frFloor_lit va a f ef.symm hq W h)
  have HC := Lib.hid (fun va W (h : Fra W va a) => frCeil_lit va a g hg hq W h)
  have HM := Lib.hid (fun va W (h : Fra W va a) => frNeg_lit va a (-a) rfl hq W h)
  have HO := Lib.hid (fun va W (h : Fra W va (-a)) => frFloor_lit va (-a) (-g) hn (Fz.neg hq) W h)
  have HL := Lib.hid (fun va vb W (h : Num W va f) (k : Num W vb 1) => frMake_lit va vb f 1 (f : Rat) (divInt_one f) (sf.mono (by decide)) ((Sz.small (by decide)).mono (by decide)) (by decide) ((Fz.int sf1).mono (by decide) (by decide)) W h k)
  have HH := Lib.hid (fun va vb W (h : Num W va g) (k : Num W vb 1) => frMake_lit va vb g 1 (g : Rat) (divInt_one g) (sg.mono (by decide)) ((Sz.small (by decide)).mono (by decide)) (by decide) ((Fz.int sg).mono (by decide) (by decide)) W h k)
  have HA := Lib.hid (fun va vb W (h : Num W va f) (k : Num W vb 1) => Add_num va vb f 1 (f + 1) rfl (sf1.len (by decide)) (s1.len (by decide)) ((Sz.add sf1 s1).len (by decide)) W h k)
  have HS := Lib.hid (fun va vb W (h : Num W va g) (k : Num W vb (-g)) => Add_num va vb g (-g) 0 (by omega) (sg.len (by decide)) (sg.neg.len (by decide)) ((Sz.small (z := 0) (by decide)).len (by decide)) W h k)
  have HK1 := Lib.hid (fun va vb W (h : Fra W va (f : Rat)) (k : Fra W vb a) => frCmp_lit va vb (f : Rat) a (0) c1 ((Fz.int sf1).mono (by decide) (by decide)) hq W h k)
  have HK2 := Lib.hid (fun va vb W (h : Fra W va (g : Rat)) (k : Fra W vb a) => frCmp_lit va vb (g : Rat) a (0) c2 ((Fz.int sg).mono (by decide) (by decide)) hq W h k)
  have HI := Lib.hid (fun W (h : Fra W (.agg #[.bool bia, .slice aia kia cia, .bool dia, .slice eia lia mia]) a) => frInt_long bia aia kia cia dia eia lia mia a hq hd hr W h)
  have HT := Lib.hid (fun va vb W (h : Num W va f) (k : Num W vb g) => Same_lit2 va vb f g true (decide_eq_true eg.symm) W h k)
  clear hd hr hm ea e2 eg hg hn c1 c2 ef hfl hfu hq sf sg sf1 s1
  have hB := Below.refl w.heap.size w
  obtain ⟨al, xia, hN⟩ := mk hB #[.bool bia, .slice aia kia cia, .bool dia, .slice eia lia mia] 26
  replace ia := ia.on al
  replace hB := hN
  clear al hN
  try simp only [World.size_alloc] at xia
  go_enter Tryz.func10, Tryz.ntmps10
  go_wp2_with fail
  refine (law2_awake_any _).mono ?_
  rintro e w1 ⟨rfl, hb⟩
  replace xia := xia.on hb
  replace ia := ia.on hb
  have hz1 := hb.size
  try simp at hz1
  replace hB := hB.trans (hb.mono hB.size)
  clear hb
  have pia := xia.all4
  have ltia := xia.lt
  go_wp2_with fail
  clear ltia
  clear pia
  have hb := ((Below.refl w1.heap.size w1).alloc (Nat.le_refl _) (.cells #[.bool bia, .slice aia kia cia, .bool dia, .slice eia lia mia] 26))
  have xrow : Bk _ w1.heap.size #[.bool bia, .slice aia kia cia, .bool dia, .slice eia lia mia] 26 := (Bk.new w1 #[.bool bia, .slice aia kia cia, .bool dia, .slice eia lia mia] 26)
  replace xia := xia.on hb
  replace ia := ia.on hb
  replace hB := hB.trans (hb.mono hB.size)
  clear hb
  have rw0 := xrow.cell 0
  have rw1 := xrow.cell 1
  have rw2 := xrow.cell 2
  have rw3 := xrow.cell 3
  simp only [List.getElem?_toArray, List.getElem?_cons_zero, List.getElem?_cons_succ] at rw0 rw1 rw2 rw3
  refine (usable1_fra w1.heap.size a bia aia kia cia dia eia lia mia _ rw0 rw1 rw2 rw3 ia sa).mono ?_
  rintro e w2 ⟨rfl, hb⟩
  clear xrow rw0 rw1 rw2 rw3
  replace xia := xia.on hb
  replace ia := ia.on hb
  replace hB := hB.trans (hb.mono hB.size)
  clear hb
  have pia := xia.all4
  have ltia := xia.lt
  go_wp2_with fail
  clear ltia
  clear pia
  refine (HN1.out _).mono ?_
  rintro e w3 ⟨⟨v, rfl, fo1⟩, hb⟩
  obtain ⟨bx1, ax1, kx1, cx1, rfl⟩ := fo1.opened
  replace xia := xia.on hb
  replace ia := ia.on hb
  have hz3 := hb.size
  try simp at hz3
  replace hB := hB.trans (hb.mono hB.size)
  clear hb
  have pia := xia.all4
  have ltia := xia.lt
  go_wp2_with fail
  clear ltia
  clear pia
  have hb := ((Below.refl w3.heap.size w3).alloc (Nat.le_refl _) (.cells #[.bool bx1, .slice ax1 kx1 cx1] 24))
  have xone : Bk _ w3.heap.size #[.bool bx1, .slice ax1 kx1 cx1] 24 := (Bk.new w3 #[.bool bx1, .slice ax1 kx1 cx1] 24)
  replace xia := xia.on hb
  replace ia := ia.on hb
  replace fo1 := fo1.on hb
  replace hB := hB.trans (hb.mono hB.size)
  clear hb
  obtain ⟨qone, hqone⟩ : ∃ W, W = (w3.alloc (.cells #[.bool bx1, .slice ax1 kx1 cx1] 24)) := ⟨_, rfl⟩
  rw [← hqone] at hB xia xone ia fo1 ⊢
  clear hqone
  refine (HF.out _ _ ia).mono ?_
  rintro e w4 ⟨⟨v, rfl, ff⟩, hb⟩
  obtain ⟨bx2, ax2, kx2, cx2, rfl⟩ := ff.opened
  replace xia := xia.on hb
  replace xone := xone.on hb
  replace ia := ia.on hb
  replace fo1 := fo1.on hb
  have hz4 := hb.size
  try simp at hz4
  replace hB := hB.trans (hb.mono hB.size)
  clear hb
  have pia := xia.all4
  have pone := xone.all2
  have ltia := xia.lt
  have ltone := xone.lt
  go_wp2_with fail
  clear ltia
  clear ltone
  clear pia pone
  have hb := ((Below.refl w4.heap.size w4).alloc (Nat.le_refl _) (.cells #[.bool bx2, .slice ax2 kx2 cx2] 24))
  have xm : Bk _ w4.heap.size #[.bool bx2, .slice ax2 kx2 cx2] 24 := (Bk.new w4 #[.bool bx2, .slice ax2 kx2 cx2] 24)
  replace xia := xia.on hb
  replace xone := xone.on hb
  replace ia := ia.on hb
  replace fo1 := fo1.on hb
  replace ff := ff.on hb
  replace hB := hB.trans (hb.mono hB.size)
  clear hb
  obtain ⟨qm, hqm⟩ : ∃ W, W = (w4.alloc (.cells #[.bool bx2, .slice ax2 kx2 cx2] 24)) := ⟨_, rfl⟩
  rw [← hqm] at hB xia xone xm ia fo1 ff ⊢
  clear hqm
  refine (HC.out _ _ ia).mono ?_
  rintro e w5 ⟨⟨v, rfl, fg⟩, hb⟩
  obtain ⟨bx3, ax3, kx3, cx3, rfl⟩ := fg.opened
  replace xia := xia.on hb
  replace xone := xone.on hb
  replace xm := xm.on hb
  replace ia := ia.on hb
  replace fo1 := fo1.on hb
  replace ff := ff.on hb
  have hz5 := hb.size
  try simp at hz5
  replace hB := hB.trans (hb.mono hB.size)
  clear hb
  have pia := xia.all4
  have pone := xone.all2
  have pm := xm.all2
  have ltia := xia.lt
  have ltone := xone.lt
  have ltm := xm.lt
  go_wp2_with fail
  clear ltia
  clear ltone
  clear ltm
  clear pia pone pm
  have hb := ((Below.refl w5.heap.size w5).alloc (Nat.le_refl _) (.cells #[.bool bx3, .slice ax3 kx3 cx3] 24))
  have xn : Bk _ w5.heap.size #[.bool bx3, .slice ax3 kx3 cx3] 24 := (Bk.new w5 #[.bool bx3, .slice ax3 kx3 cx3] 24)
  replace xia := xia.on hb
  replace xone := xone.on hb
  replace xm := xm.on hb
  replace ia := ia.on hb
  replace fo1 := fo1.on hb
  replace ff := ff.on hb
  replace fg := fg.on hb
  replace hB := hB.trans (hb.mono hB.size)
  clear hb
  obtain ⟨qn, hqn⟩ : ∃ W, W = (w5.alloc (.cells #[.bool bx3, .slice ax3 kx3 cx3] 24)) := ⟨_, rfl⟩
  rw [← hqn] at hB xia xone xm xn ia fo1 ff fg ⊢
  clear hqn
  refine (HM.out _ _ ia).mono ?_
  rintro e w6 ⟨⟨v, rfl, fm⟩, hb⟩
  obtain ⟨bx4, ax4, kx4, cx4, dx4, ex4, lx4, mx4, rfl⟩ := fm.opened
  replace xia := xia.on hb
  replace xone := xone.on hb
  replace xm := xm.on hb
  replace xn := xn.on hb
  replace ia := ia.on hb
  replace fo1 := fo1.on hb
  replace ff := ff.on hb
  replace fg := fg.on hb
  have hz6 := hb.size
  try simp at hz6
  replace hB := hB.trans (hb.mono hB.size)
  clear hb
  have pia := xia.all4
  have pone := xone.all2
  have pm := xm.all2
  have pn := xn.all2
  have ltia := xia.lt
  have ltone := xone.lt
  have ltm := xm.lt
  have ltn := xn.lt
  go_wp2_with fail
  clear ltia
  clear ltone
  clear ltm
  clear ltn
  clear pia pone pm pn
  have hb := ((Below.refl w6.heap.size w6).alloc (Nat.le_refl _) (.cells #[.bool bx4, .slice ax4 kx4 cx4, .bool dx4, .slice ex4 lx4 mx4] 26))
  have xmi : Bk _ w6.heap.size #[.bool bx4, .slice ax4 kx4 cx4, .bool dx4, .slice ex4 lx4 mx4] 26 := (Bk.new w6 #[.bool bx4, .slice ax4 kx4 cx4, .bool dx4, .slice ex4 lx4 mx4] 26)
  replace xia := xia.on hb
  replace xone := xone.on hb
  replace xm := xm.on hb
  replace xn := xn.on hb
  replace ia := ia.on hb
  replace fo1 := fo1.on hb
  replace ff := ff.on hb
  replace fg := fg.on hb
  replace fm := fm.on hb
  replace hB := hB.trans (hb.mono hB.size)
  clear hb
  obtain ⟨qmi, hqmi⟩ : ∃ W, W = (w6.alloc (.cells #[.bool bx4, .slice ax4 kx4 cx4, .bool dx4, .slice ex4 lx4 mx4] 26)) := ⟨_, rfl⟩
  rw [← hqmi] at hB xia xone xm xn xmi ia fo1 ff fg fm ⊢
  clear hqmi
  refine (HO.out _ _ fm).mono ?_
  rintro e w7 ⟨⟨v, rfl, fo⟩, hb⟩
  obtain ⟨bx5, ax5, kx5, cx5, rfl⟩ := fo.opened
  replace xia := xia.on hb
  replace xone := xone.on hb
  replace xm := xm.on hb
  replace xn := xn.on hb
  replace xmi := xmi.on hb
  replace ia := ia.on hb
  replace fo1 := fo1.on hb
  replace ff := ff.on hb
  replace fg := fg.on hb
  replace fm := fm.on hb
  have hz7 := hb.size
  try simp at hz7
  replace hB := hB.trans (hb.mono hB.size)
  clear hb
  have pia := xia.all4
  have pone := xone.all2
  have pm := xm.all2
  have pn := xn.all2
  have pmi := xmi.all4
  have ltia := xia.lt
  have ltone := xone.lt
  have ltm := xm.lt
  have ltn := xn.lt
  have ltmi := xmi.lt
  go_wp2_with fail
  clear ltia
  clear ltone
  clear ltm
  clear ltn
  clear ltmi
  clear pia pone pm pn pmi
  have hb := ((Below.refl w7.heap.size w7).alloc (Nat.le_refl _) (.cells #[.bool bx5, .slice ax5 kx5 cx5] 24))
  have xo : Bk _ w7.heap.size #[.bool bx5, .slice ax5 kx5 cx5] 24 := (Bk.new w7 #[.bool bx5, .slice ax5 kx5 cx5] 24)
  replace xia := xia.on hb
  replace xone := xone.on hb
  replace xm := xm.on hb
  replace xn := xn.on hb
  replace xmi := xmi.on hb
  replace ia := ia.on hb
  replace fo1 := fo1.on hb
  replace ff := ff.on hb
  replace fg := fg.on hb
  replace fm := fm.on hb
  replace fo := fo.on hb
  replace hB := hB.trans (hb.mono hB.size)
  clear hb
  obtain ⟨qo, hqo⟩ : ∃ W, W = (w7.alloc (.cells #[.bool bx5, .slice ax5 kx5 cx5] 24)) := ⟨_, rfl⟩
  rw [← hqo] at hB xia xone xm xn xmi xo ia fo1 ff fg fm fo ⊢
  clear hqo
  clear fm
  clear xmi
  refine (HL.out _ _ _ ff fo1).mono ?_
  rintro e w8 ⟨⟨v, rfl, fl⟩, hb⟩
  obtain ⟨bx6, ax6, kx6, cx6, dx6, ex6, lx6, mx6, rfl⟩ := fl.opened
  replace xia := xia.on hb
  replace xone := xone.on hb
  replace xm := xm.on hb
  replace xn := xn.on hb
  replace xo := xo.on hb
  replace ia := ia.on hb
  replace fo1 := fo1.on hb
  replace ff := ff.on hb
  replace fg := fg.on hb
  replace fo := fo.on hb
  have hz8 := hb.size
  try simp at hz8
  replace hB := hB.trans (hb.mono hB.size)
  clear hb
  have pia := xia.all4
  have pone := xone.all2
  have pm := xm.all2
  have pn := xn.all2
  have po := xo.all2
  have ltia := xia.lt
  have ltone := xone.lt
  have ltm := xm.lt
  have ltn := xn.lt
  have lto := xo.lt
  go_wp2_with fail
  clear ltia
  clear ltone
  clear ltm
  clear ltn
  clear lto
  clear pia pone pm pn po
  have hb := ((Below.refl w8.heap.size w8).alloc (Nat.le_refl _) (.cells #[.bool bx6, .slice ax6 kx6 cx6, .bool dx6, .slice ex6 lx6 mx6] 26))
  have xlo : Bk _ w8.heap.size #[.bool bx6, .slice ax6 kx6 cx6, .bool dx6, .slice ex6 lx6 mx6] 26 := (Bk.new w8 #[.bool bx6, .slice ax6 kx6 cx6, .bool dx6, .slice ex6 lx6 mx6] 26)
  replace xia := xia.on hb
  replace xone := xone.on hb
  replace xm := xm.on hb
  replace xn := xn.on hb
  replace xo := xo.on hb
  replace ia := ia.on hb
  replace fo1 := fo1.on hb
  replace ff := ff.on hb
  replace fg := fg.on hb
  replace fo := fo.on hb
  replace fl := fl.on hb
  replace hB := hB.trans (hb.mono hB.size)
  clear hb
  obtain ⟨qlo, hqlo⟩ : ∃ W, W = (w8.alloc (.cells #[.bool bx6, .slice ax6 kx6 cx6, .bool dx6, .slice ex6 lx6 mx6] 26)) := ⟨_, rfl⟩
  rw [← hqlo] at hB xia xone xm xn xo xlo ia fo1 ff fg fo fl ⊢
  clear hqlo
  refine (HH.out _ _ _ fg fo1).mono ?_
  rintro e w9 ⟨⟨v, rfl, fh⟩, hb⟩
  obtain ⟨bx7, ax7, kx7, cx7, dx7, ex7, lx7, mx7, rfl⟩ := fh.opened
  replace xia := xia.on hb
  replace xone := xone.on hb
  replace xm := xm.on hb
  replace xn := xn.on hb
  replace xo := xo.on hb
  replace xlo := xlo.on hb
  replace ia := ia.on hb
  replace fo1 := fo1.on hb
  replace ff := ff.on hb
  replace fg := fg.on hb
  replace fo := fo.on hb
  replace fl := fl.on hb
  have hz9 := hb.size
  try simp at hz9
  replace hB := hB.trans (hb.mono hB.size)
  clear hb
  have pia := xia.all4
  have pone := xone.all2
  have pm := xm.all2
  have pn := xn.all2
  have po := xo.all2
  have plo := xlo.all4
  have ltia := xia.lt
  have ltone := xone.lt
  have ltm := xm.lt
  have ltn := xn.lt
  have lto := xo.lt
  have ltlo := xlo.lt
  go_wp2_with fail
  clear ltia
  clear ltone
  clear ltm
  clear ltn
  clear lto
  clear ltlo
  clear pia pone pm pn po plo
  have hb := ((Below.refl w9.heap.size w9).alloc (Nat.le_refl _) (.cells #[.bool bx7, .slice ax7 kx7 cx7, .bool dx7, .slice ex7 lx7 mx7] 26))
  have xhi : Bk _ w9.heap.size #[.bool bx7, .slice ax7 kx7 cx7, .bool dx7, .slice ex7 lx7 mx7] 26 := (Bk.new w9 #[.bool bx7, .slice ax7 kx7 cx7, .bool dx7, .slice ex7 lx7 mx7] 26)
  replace xia := xia.on hb
  replace xone := xone.on hb
  replace xm := xm.on hb
  replace xn := xn.on hb
  replace xo := xo.on hb
  replace xlo := xlo.on hb
  replace ia := ia.on hb
  replace fo1 := fo1.on hb
  replace ff := ff.on hb
  replace fg := fg.on hb
  replace fo := fo.on hb
  replace fl := fl.on hb
  replace fh := fh.on hb
  replace hB := hB.trans (hb.mono hB.size)
  clear hb
  obtain ⟨qhi, hqhi⟩ : ∃ W, W = (w9.alloc (.cells #[.bool bx7, .slice ax7 kx7 cx7, .bool dx7, .slice ex7 lx7 mx7] 26)) := ⟨_, rfl⟩
  rw [← hqhi] at hB xia xone xm xn xo xlo xhi ia fo1 ff fg fo fl fh ⊢
  clear hqhi
  refine (HA.out _ _ _ ff fo1).mono ?_
  rintro e w10 ⟨⟨v, rfl, fx⟩, hb⟩
  obtain ⟨bx8, ax8, kx8, cx8, rfl⟩ := fx.opened
  replace xia := xia.on hb
  replace xone := xone.on hb
  replace xm := xm.on hb
  replace xn := xn.on hb
  replace xo := xo.on hb
  replace xlo := xlo.on hb
  replace xhi := xhi.on hb
  replace ia := ia.on hb
  replace fo1 := fo1.on hb
  replace ff := ff.on hb
  replace fg := fg.on hb
  replace fo := fo.on hb
  replace fl := fl.on hb
  replace fh := fh.on hb
  have hz10 := hb.size
  try simp at hz10
  replace hB := hB.trans (hb.mono hB.size)
  clear hb
  have pia := xia.all4
  have pone := xone.all2
  have pm := xm.all2
  have pn := xn.all2
  have po := xo.all2
  have plo := xlo.all4
  have phi := xhi.all4
  have ltia := xia.lt
  have ltone := xone.lt
  have ltm := xm.lt
  have ltn := xn.lt
  have lto := xo.lt
  have ltlo := xlo.lt
  have lthi := xhi.lt
  go_wp2_with fail
  clear ltia
  clear ltone
  clear ltm
  clear ltn
  clear lto
  clear ltlo
  clear lthi
  clear pia pone pm pn po plo phi
  have hb := ((Below.refl w10.heap.size w10).alloc (Nat.le_refl _) (.cells #[.bool bx8, .slice ax8 kx8 cx8] 24))
  have xne : Bk _ w10.heap.size #[.bool bx8, .slice ax8 kx8 cx8] 24 := (Bk.new w10 #[.bool bx8, .slice ax8 kx8 cx8] 24)
  replace xia := xia.on hb
  replace xone := xone.on hb
  replace xm := xm.on hb
  replace xn := xn.on hb
  replace xo := xo.on hb
  replace xlo := xlo.on hb
  replace xhi := xhi.on hb
  replace ia := ia.on hb
  replace fo1 := fo1.on hb
  replace ff := ff.on hb
  replace fg := fg.on hb
  replace fo := fo.on hb
  replace fl := fl.on hb
  replace fh := fh.on hb
  replace fx := fx.on hb
  replace hB := hB.trans (hb.mono hB.size)
  clear hb
  obtain ⟨qne, hqne⟩ : ∃ W, W = (w10.alloc (.cells #[.bool bx8, .slice ax8 kx8 cx8] 24)) := ⟨_, rfl⟩
  rw [← hqne] at hB xia xone xm xn xo xlo xhi xne ia fo1 ff fg fo fl fh fx ⊢
  clear hqne
  clear fo1
  clear xone
  refine (HS.out _ _ _ fg fo).mono ?_
  rintro e w11 ⟨⟨v, rfl, fs⟩, hb⟩
  obtain ⟨bx9, ax9, kx9, cx9, rfl⟩ := fs.opened
  have hk9 := (num_len fs).1
  rw [show (0 : Int).natAbs = 0 from rfl, dig_zero, List.length_nil] at hk9
  subst hk9
  clear fs
  replace xia := xia.on hb
  replace xm := xm.on hb
  replace xn := xn.on hb
  replace xo := xo.on hb
  replace xlo := xlo.on hb
  replace xhi := xhi.on hb
  replace xne := xne.on hb
  replace ia := ia.on hb
  replace ff := ff.on hb
  replace fg := fg.on hb
  replace fo := fo.on hb
  replace fl := fl.on hb
  replace fh := fh.on hb
  replace fx := fx.on hb
  have hz11 := hb.size
  try simp at hz11
  replace hB := hB.trans (hb.mono hB.size)
  clear hb
  clear fo
  clear xo
  have pia := xia.all4
  have pm := xm.all2
  have pn := xn.all2
  have plo := xlo.all4
  have phi := xhi.all4
  have pne := xne.all2
  have ltia := xia.lt
  have ltm := xm.lt
  have ltn := xn.lt
  have ltlo := xlo.lt
  have lthi := xhi.lt
  have ltne := xne.lt
  go_wp2_with fail
  clear ltia
  clear ltm
  clear ltn
  clear ltlo
  clear lthi
  clear ltne
  clear pia pm pn plo phi pne
  have hb := ((Below.refl w11.heap.size w11).alloc (Nat.le_refl _) (.cells #[.bool bx9, .slice ax9 0 cx9] 24))
  have xsu : Bk _ w11.heap.size #[.bool bx9, .slice ax9 0 cx9] 24 := (Bk.new w11 #[.bool bx9, .slice ax9 0 cx9] 24)
  replace xia := xia.on hb
  replace xm := xm.on hb
  replace xn := xn.on hb
  replace xlo := xlo.on hb
  replace xhi := xhi.on hb
  replace xne := xne.on hb
  replace ia := ia.on hb
  replace ff := ff.on hb
  replace fg := fg.on hb
  replace fl := fl.on hb
  replace fh := fh.on hb
  replace fx := fx.on hb
  replace hB := hB.trans (hb.mono hB.size)
  clear hb
  obtain ⟨qsu, hqsu⟩ : ∃ W, W = (w11.alloc (.cells #[.bool bx9, .slice ax9 0 cx9] 24)) := ⟨_, rfl⟩
  rw [← hqsu] at hB xia xm xn xlo xhi xne xsu ia ff fg fl fh fx ⊢
  clear hqsu
  refine (HK1.out _ _ _ fl ia).mono ?_
  rintro e w12 ⟨rfl, hb⟩
  replace xia := xia.on hb
  replace xm := xm.on hb
  replace xn := xn.on hb
  replace xlo := xlo.on hb
  replace xhi := xhi.on hb
  replace xne := xne.on hb
  replace xsu := xsu.on hb
  replace ia := ia.on hb
  replace ff := ff.on hb
  replace fg := fg.on hb
  replace fl := fl.on hb
  replace fh := fh.on hb
  replace fx := fx.on hb
  have hz12 := hb.size
  try simp at hz12
  replace hB := hB.trans (hb.mono hB.size)
  clear hb
  have pia := xia.all4
  have pm := xm.all2
  have pn := xn.all2
  have plo := xlo.all4
  have phi := xhi.all4
  have pne := xne.all2
  have psu := xsu.all2
  have ltia := xia.lt
  have ltm := xm.lt
  have ltn := xn.lt
  have ltlo := xlo.lt
  have lthi := xhi.lt
  have ltne := xne.lt
  have ltsu := xsu.lt
  go_wp2_with fail
  clear ltia
  clear ltm
  clear ltn
  clear ltlo
  clear lthi
  clear ltne
  clear ltsu
  clear pia pm pn plo phi pne psu
  refine (HK2.out _ _ _ fh ia).mono ?_
  rintro e w13 ⟨rfl, hb⟩
  replace xia := xia.on hb
  replace xm := xm.on hb
  replace xn := xn.on hb
  replace xlo := xlo.on hb
  replace xhi := xhi.on hb
  replace xne := xne.on hb
  replace xsu := xsu.on hb
  replace ia := ia.on hb
  replace ff := ff.on hb
  replace fg := fg.on hb
  replace fl := fl.on hb
  replace fh := fh.on hb
  replace fx := fx.on hb
  have hz13 := hb.size
  try simp at hz13
  replace hB := hB.trans (hb.mono hB.size)
  clear hb
  have pia := xia.all4
  have pm := xm.all2
  have pn := xn.all2
  have plo := xlo.all4
  have phi := xhi.all4
  have pne := xne.all2
  have psu := xsu.all2
  have ltia := xia.lt
  have ltm := xm.lt
  have ltn := xn.lt
  have ltlo := xlo.lt
  have lthi := xhi.lt
  have ltne := xne.lt
  have ltsu := xsu.lt
  go_wp2_with fail
  clear ltia
  clear ltm
  clear ltn
  clear ltlo
  clear lthi
  clear ltne
  clear ltsu
  clear pia pm pn plo phi pne psu
  refine (HK1.out _ _ _ fl ia).mono ?_
  rintro e w14 ⟨rfl, hb⟩
  replace xia := xia.on hb
  replace xm := xm.on hb
  replace xn := xn.on hb
  replace xlo := xlo.on hb
  replace xhi := xhi.on hb
  replace xne := xne.on hb
  replace xsu := xsu.on hb
  replace ia := ia.on hb
  replace ff := ff.on hb
  replace fg := fg.on hb
  replace fl := fl.on hb
  replace fh := fh.on hb
  replace fx := fx.on hb
  have hz14 := hb.size
  try simp at hz14
  replace hB := hB.trans (hb.mono hB.size)
  clear hb
  have pia := xia.all4
  have pm := xm.all2
  have pn := xn.all2
  have plo := xlo.all4
  have phi := xhi.all4
  have pne := xne.all2
  have psu := xsu.all2
  have ltia := xia.lt
  have ltm := xm.lt
  have ltn := xn.lt
  have ltlo := xlo.lt
  have lthi := xhi.lt
  have ltne := xne.lt
  have ltsu := xsu.lt
  go_wp2_with fail
  clear ltia
  clear ltm
  clear ltn
  clear ltlo
  clear lthi
  clear ltne
  clear ltsu
  clear pia pm pn plo phi pne psu
  refine (HI.out _ ia).mono ?_
  rintro e w15 ⟨rfl, hb⟩
  replace xia := xia.on hb
  replace xm := xm.on hb
  replace xn := xn.on hb
  replace xlo := xlo.on hb
  replace xhi := xhi.on hb
  replace xne := xne.on hb
  replace xsu := xsu.on hb
  replace ia := ia.on hb
  replace ff := ff.on hb
  replace fg := fg.on hb
  replace fl := fl.on hb
  replace fh := fh.on hb
  replace fx := fx.on hb
  have hz15 := hb.size
  try simp at hz15
  replace hB := hB.trans (hb.mono hB.size)
  clear hb
  have pia := xia.all4
  have pm := xm.all2
  have pn := xn.all2
  have plo := xlo.all4
  have phi := xhi.all4
  have pne := xne.all2
  have psu := xsu.all2
  have ltia := xia.lt
  have ltm := xm.lt
  have ltn := xn.lt
  have ltlo := xlo.lt
  have lthi := xhi.lt
  have ltne := xne.lt
  have ltsu := xsu.lt
  go_wp2_with fail
  clear ltia
  clear ltm
  clear ltn
  clear ltlo
  clear lthi
  clear ltne
  clear ltsu
  clear pia pm pn plo phi pne psu
  have qm := xm.lt
  have qn := xn.lt
  have qia := xia.lt
  obtain ⟨gm0, gm1⟩ := xm.cells2
  obtain ⟨gn0, gn1⟩ := xn.cells2
  obtain ⟨gia0, gia1, gia2, gia3⟩ := xia.cells4
  refine wp_region_noPanic ?_
  refine wp_region_held_drew (S := (fun w' => w'.cell? ⟨w4.heap.size, 0, none⟩ = some (.bool bx2) ∧ w'.cell? ⟨w4.heap.size, 1, none⟩ = some (.slice ax2 kx2 cx2) ∧ w'.cell? ⟨w5.heap.size, 0, none⟩ = some (.bool bx3) ∧ w'.cell? ⟨w5.heap.size, 1, none⟩ = some (.slice ax3 kx3 cx3) ∧ w'.cell? ⟨w.heap.size, 0, none⟩ = some (.bool bia) ∧ w'.cell? ⟨w.heap.size, 1, none⟩ = some (.slice aia kia cia) ∧ w'.cell? ⟨w.heap.size, 2, none⟩ = some (.bool dia) ∧ w'.cell? ⟨w.heap.size, 3, none⟩ = some (.slice eia lia mia))) (by kernel_rfl) ⟨gm0, gm1, gn0, gn1, ⟨gia0, gia1, gia2, gia3⟩⟩ (fun hR0 => ?_)
  change wpAnyH _ _ _ _ _ 19 #[false, false, false, false, false, false, false, false, false, false, false, false, false, false, false, false, false, false, false] _ _
  clear gm0 gm1 gn0 gn1 gia0 gia1 gia2 gia3
  refine tk (i := 0) (v := ?_) rfl (by kernel_rfl) (fun _ _ _ h => h) (by rfl) ?_ (by assumption) ?_
  rotate_left 1
  · (intro w hSw; (try dsimp only at hSw); go_simp <;> (with_reducible rfl))
  (first | ((fail_if_success (unfold Act.put)); (try simp only [List.setIfInBounds_toArray, List.set])) | (try simp only [Act.put, List.setIfInBounds_toArray, List.set]))
  refine tk (i := 1) (v := ?_) rfl (by kernel_rfl) (fun _ _ _ h => h) (by rfl) ?_ (by assumption) ?_
  rotate_left 1
  · (intro w hSw; (try dsimp only at hSw); go_simp <;> (with_reducible rfl))
  (first | ((fail_if_success (unfold Act.put)); (try simp only [List.setIfInBounds_toArray, List.set])) | (try simp only [Act.put, List.setIfInBounds_toArray, List.set]))
  refine rd1 (i := 2) (by kernel_rfl) rfl (fun K hK => ?_)
  go_simp
  go_at_call 56; have hBd := hB.drew; refine (HT.out _ _ _ (by exact ff) (by exact fg)).mono ?_; rintro e w16 ⟨rfl, hb⟩; replace hb := (Below.refl w15.heap.size w15).drew.trans hb; replace xia := xia.on hb; replace xm := xm.on hb; replace xn := xn.on hb; replace xlo := xlo.on hb; replace xhi := xhi.on hb; replace xne := xne.on hb; replace xsu := xsu.on hb; replace ia := ia.on hb; replace ff := ff.on hb; replace fg := fg.on hb; replace fl := fl.on hb; replace fh := fh.on hb; replace fx := fx.on hb; replace hB := hB.trans (hb.mono hB.size); have hz16 := hb.size
  (try go_wp2_with fail)
  refine hK.out _ _ (⟨(hb.cell (p := ⟨w4.heap.size, 0, none⟩) qm).trans hR0.1, (hb.cell (p := ⟨w4.heap.size, 1, none⟩) qm).trans hR0.2.1, (hb.cell (p := ⟨w5.heap.size, 0, none⟩) qn).trans hR0.2.2.1, (hb.cell (p := ⟨w5.heap.size, 1, none⟩) qn).trans hR0.2.2.2.1, keep4 hb qia hR0.2.2.2.2⟩) (fun hR1 => ?_)
  clear hK K hR0
  (first | ((fail_if_success (unfold Act.put)); (try simp only [List.setIfInBounds_toArray, List.set])) | (try simp only [Act.put, List.setIfInBounds_toArray, List.set]))
  replace qm := Nat.lt_of_lt_of_le qm hz16
  replace qn := Nat.lt_of_lt_of_le qn hz16
  replace qia := Nat.lt_of_lt_of_le qia hz16
  clear hb hBd
  refine tk (i := 3) (v := ?_) rfl (by kernel_rfl) (fun _ _ _ h => h) (by rfl) ?_ (by assumption) ?_
  rotate_left 1
  · (intro w hSw; (try dsimp only at hSw); go_simp <;> (with_reducible rfl))
  (first | ((fail_if_success (unfold Act.put)); (try simp only [List.setIfInBounds_toArray, List.set])) | (try simp only [Act.put, List.setIfInBounds_toArray, List.set]))
  refine tk (i := 4) (v := ?_) rfl (by kernel_rfl) (fun _ _ _ h => h) (by rfl) ?_ (by assumption) ?_
  rotate_left 1
  · (intro w hSw; (try dsimp only at hSw); go_simp <;> (with_reducible rfl))
  (first | ((fail_if_success (unfold Act.put)); (try simp only [List.setIfInBounds_toArray, List.set])) | (try simp only [Act.put, List.setIfInBounds_toArray, List.set]))
  refine tk (i := 5) (v := ?_) rfl (by kernel_rfl) (fun _ _ _ h => h) (by rfl) ?_ (by assumption) ?_
  rotate_left 1
  · (intro w hSw; (try dsimp only at hSw); go_simp <;> (with_reducible rfl))
  (first | ((fail_if_success (unfold Act.put)); (try simp only [List.setIfInBounds_toArray, List.set])) | (try simp only [Act.put, List.setIfInBounds_toArray, List.set]))
  refine tk (i := 6) (v := ?_) rfl (by kernel_rfl) (fun _ _ _ h => h) (by rfl) ?_ (by assumption) ?_
  rotate_left 1
  · (intro w hSw; (try dsimp only at hSw); go_simp <;> (with_reducible rfl))
  (first | ((fail_if_success (unfold Act.put)); (try simp only [List.setIfInBounds_toArray, List.set])) | (try simp only [Act.put, List.setIfInBounds_toArray, List.set]))
  refine tk (i := 7) (v := ?_) rfl (by kernel_rfl) (fun _ _ _ h => h) (by rfl) ?_ (by assumption) ?_
  rotate_left 1
  · (intro w hSw; (try dsimp only at hSw); go_simp <;> (with_reducible rfl))
  (first | ((fail_if_success (unfold Act.put)); (try simp only [List.setIfInBounds_toArray, List.set])) | (try simp only [Act.put, List.setIfInBounds_toArray, List.set]))
  refine tk (i := 8) (v := ?_) rfl (by kernel_rfl) (fun _ _ _ h => h) (by rfl) ?_ (by assumption) ?_
  rotate_left 1
  · (intro w hSw; (try dsimp only at hSw); go_simp <;> (with_reducible rfl))
  (first | ((fail_if_success (unfold Act.put)); (try simp only [List.setIfInBounds_toArray, List.set])) | (try simp only [Act.put, List.setIfInBounds_toArray, List.set]))
  refine tk (i := 9) (v := ?_) rfl (by kernel_rfl) (fun _ _ _ h => h) (by rfl) ?_ (by assumption) ?_
  rotate_left 1
  · (intro w hSw; (try dsimp only at hSw); go_simp <;> (with_reducible rfl))
  (first | ((fail_if_success (unfold Act.put)); (try simp only [List.setIfInBounds_toArray, List.set])) | (try simp only [Act.put, List.setIfInBounds_toArray, List.set]))
  refine tk (i := 10) (v := ?_) rfl (by kernel_rfl) (fun _ _ _ h => h) (by rfl) ?_ (by assumption) ?_
  rotate_left 1
  · (intro w hSw; (try dsimp only at hSw); go_simp <;> (with_reducible rfl))
  (first | ((fail_if_success (unfold Act.put)); (try simp only [List.setIfInBounds_toArray, List.set])) | (try simp only [Act.put, List.setIfInBounds_toArray, List.set]))
  refine sk (i := 11) rfl (by kernel_rfl) (fun _ _ _ h => h) (by rfl) (by assumption) ?_
  (first | ((fail_if_success (unfold Act.put)); (try simp only [List.setIfInBounds_toArray, List.set])) | (try simp only [Act.put, List.setIfInBounds_toArray, List.set]))
  refine sk (i := 13) rfl (by kernel_rfl) (fun _ _ _ h => h) (by rfl) (by assumption) ?_
  (first | ((fail_if_success (unfold Act.put)); (try simp only [List.setIfInBounds_toArray, List.set])) | (try simp only [Act.put, List.setIfInBounds_toArray, List.set]))
  refine sk (i := 12) rfl (by kernel_rfl) (fun _ _ _ h => h) (by rfl) (by assumption) ?_
  (first | ((fail_if_success (unfold Act.put)); (try simp only [List.setIfInBounds_toArray, List.set])) | (try simp only [Act.put, List.setIfInBounds_toArray, List.set]))
  refine sk (i := 14) rfl (by kernel_rfl) (fun _ _ _ h => h) (by rfl) (by assumption) ?_
  (first | ((fail_if_success (unfold Act.put)); (try simp only [List.setIfInBounds_toArray, List.set])) | (try simp only [Act.put, List.setIfInBounds_toArray, List.set]))
  refine sk (i := 15) rfl (by kernel_rfl) (fun _ _ _ h => h) (by rfl) (by assumption) ?_
  (first | ((fail_if_success (unfold Act.put)); (try simp only [List.setIfInBounds_toArray, List.set])) | (try simp only [Act.put, List.setIfInBounds_toArray, List.set]))
  refine tk (i := 16) (v := ?_) rfl (by kernel_rfl) (fun _ _ _ h => h) (by rfl) ?_ (by assumption) ?_
  rotate_left 1
  · (intro w hSw; (try dsimp only at hSw); go_simp <;> (with_reducible rfl))
  (first | ((fail_if_success (unfold Act.put)); (try simp only [List.setIfInBounds_toArray, List.set])) | (try simp only [Act.put, List.setIfInBounds_toArray, List.set]))
  refine tk (i := 17) (v := ?_) rfl (by kernel_rfl) (fun _ _ _ h => h) (by rfl) ?_ (by assumption) ?_
  rotate_left 1
  · (intro w hSw; (try dsimp only at hSw); go_simp <;> (with_reducible rfl))
  (first | ((fail_if_success (unfold Act.put)); (try simp only [List.setIfInBounds_toArray, List.set])) | (try simp only [Act.put, List.setIfInBounds_toArray, List.set]))
  refine tk (i := 18) (v := ?_) rfl (by kernel_rfl) (fun _ _ _ h => h) (by rfl) ?_ (by assumption) ?_
  rotate_left 1
  · (intro w hSw; (try dsimp only at hSw); go_simp <;> (with_reducible rfl))
  (first | ((fail_if_success (unfold Act.put)); (try simp only [List.setIfInBounds_toArray, List.set])) | (try simp only [Act.put, List.setIfInBounds_toArray, List.set]))
  refine wpAnyH_done (by kernel_rfl) ?_ _
  refine NoPanic.normal ?_
  clear hR1
  clear qm qn qia
  go_wp2
  go_ret
  exact ⟨rfl, hB⟩
set_option maxRecDepth 100000 in
set_option maxHeartbeats 8000000 in
theorem FracFloors_C (a : Rat) (sa : Fz 40 40 a) (bia : Bool) (aia : Option Addr) (kia cia : Nat) (dia : Bool) (eia : Option Addr) (lia mia : Nat) (hd : a.den ≠ 1) (w : World) (ia : Fra w (.agg #[.bool bia, .slice aia kia cia, .bool dia, .slice eia lia mia]) a) :
    Calls Tryz.prog 10 #[.agg #[.bool bia, .slice aia kia cia, .bool dia, .slice eia lia mia]] w fun e w' => e = .returned (.bool true) ∧ Below w.heap.size w w' := by
  have hq : Fz 256 256 a := sa.mono (by decide) (by decide)
  obtain ⟨f, ef⟩ : ∃ f, f = a.num / (a.den : Int) := ⟨_, rfl⟩
  have sf : Sz 40 f := by rw [ef]; exact floor_sz sa.1
  have hfl : (f : Rat) ≤ a := by rw [ef, ← Rat.floor_def]; exact Rat.floor_le a
  have hfu : a < ((f + 1 : Int) : Rat) := by rw [ef, ← Rat.floor_def]; exact Rat.lt_floor_add_one a
  have s1 : Sz 41 (1 : Int) := (Sz.small (by decide)).mono (by decide)
  have hm : a.num % (a.den : Int) ≠ 0 := fun e => hd (den_one_of e)
  obtain ⟨g, eg⟩ : ∃ g, g = f + 1 := ⟨_, rfl⟩
  have hg : (if a.num % (a.den : Int) = 0 then a.num / (a.den : Int) else a.num / (a.den : Int) + 1) = g := by rw [if_neg hm, eg, ef]
  have hn : (-a).num / ((-a).den : Int) = -g := by rw [(Fq.neg_num a).1, (Fq.neg_num a).2, eg, ef]; exact neg_floor (Fq.den_pos a) hm
  have hne : (f : Rat) ≠ a := fun e => hd (by rw [← e]; exact Rat.den_intCast f)
  have c1 : cmpR (f : Rat) a = -1 := cmpR_lt (by grind)
  have c2 : cmpR (g : Rat) a = 1 := cmpR_gt (by rw [eg]; exact hfu)
  have sg : Sz 41 g := by rw [eg]; exact (Sz.add (sf.mono (by decide) : Sz 40 f) ((Sz.small (by decide)).mono (by decide) : Sz 40 1))
  have sf1 : Sz 41 f := sf.mono (by decide)
  have HN1 := Lib.hid (fun W => refFromInt_num 1 (by decide) (by decide) W)
  have HF := Lib.hid (fun va W (h : Fra W va a) => frFloor_lit va a f ef.symm hq W h)
  have HC := Lib.hid (fun va W (h : Fra W va a) => frCeil_lit va a g hg hq W h)
  have HM := Lib.hid (fun va W (h : Fra W va a) => frNeg_lit va a (-a) rfl hq W h)
  have HO := Lib.hid (fun va W (h : Fra W va (-a)) => frFloor_lit va (-a) (-g) hn (Fz.neg hq) W h)
  have HL := Lib.hid (fun va vb W (h : Num W va f) (k : Num W vb 1) => frMake_lit va vb f 1 (f : Rat) (divInt_one f) (sf.mono (by decide)) ((Sz.small (by decide)).mono (by decide)) (by decide) ((Fz.int sf1).mono (by decide) (by decide)) W h k)
  have HH := Lib.hid (fun va vb W (h : Num W va g) (k : Num W vb 1) => frMake_lit va vb g 1 (g : Rat) (divInt_one g) (sg.mono (by decide)) ((Sz.small (by decide)).mono (by decide)) (by decide) ((Fz.int sg).mono (by decide) (by decide)) W h k)
  have HA := Lib.hid (fun va vb W (h : Num W va f) (k : Num W vb 1) => Add_num va vb f 1 (f + 1) rfl (sf1.len (by decide)) (s1.len (by decide)) ((Sz.add sf1 s1).len (by decide)) W h k)
  have HS := Lib.hid (fun va vb W (h : Num W va g) (k : Num W vb (-g)) => Add_num va vb g (-g) 0 (by omega) (sg.len (by decide)) (sg.neg.len (by decide)) ((Sz.small (z := 0) (by decide)).len (by decide)) W h k)
  have HK1 := Lib.hid (fun va vb W (h : Fra W va (f : Rat)) (k : Fra W vb a) => frCmp_lit va vb (f : Rat) a (-1) c1 ((Fz.int sf1).mono (by decide) (by decide)) hq W h k)
  have HK2 := Lib.hid (fun va vb W (h : Fra W va (g : Rat)) (k : Fra W vb a) => frCmp_lit va vb (g : Rat) a (1) c2 ((Fz.int sg).mono (by decide) (by decide)) hq W h k)
  have HI := Lib.hid (fun W (h : Fra W (.agg #[.bool bia, .slice aia kia cia, .bool dia, .slice eia lia mia]) a) => frInt_part bia aia kia cia dia eia lia mia a hq hd W h)
  have HT := Lib.hid (fun va vb W (h : Num W va (f + 1)) (k : Num W vb g) => Same_lit2 va vb (f + 1) g true (decide_eq_true eg.symm) W h k)
  clear hd hm eg hg hn c1 c2 hne ef hfl hfu hq sf sg sf1 s1
  have hB := Below.refl w.heap.size w
  obtain ⟨al, xia, hN⟩ := mk hB #[.bool bia, .slice aia kia cia, .bool dia, .slice eia lia mia] 26
  replace ia := ia.on al
  replace hB := hN
  clear al hN
  try simp only [World.size_alloc] at xia
  go_enter Tryz.func10, Tryz.ntmps10
  go_wp2_with fail
  refine (law2_awake_any _).mono ?_
  rintro e w1 ⟨rfl, hb⟩
  replace xia := xia.on hb
  replace ia := ia.on hb
  have hz1 := hb.size
  try simp at hz1
  replace hB := hB.trans (hb.mono hB.size)
  clear hb
  have pia := xia.all4
  have ltia := xia.lt
  go_wp2_with fail
  clear ltia
  clear pia
  have hb := ((Below.refl w1.heap.size w1).alloc (Nat.le_refl _) (.cells #[.bool bia, .slice aia kia cia, .bool dia, .slice eia lia mia] 26))
  have xrow : Bk _ w1.heap.size #[.bool bia, .slice aia kia cia, .bool dia, .slice eia lia mia] 26 := (Bk.new w1 #[.bool bia, .slice aia kia cia, .bool dia, .slice eia lia mia] 26)
  replace xia := xia.on hb
  replace ia := ia.on hb
  replace hB := hB.trans (hb.mono hB.size)
  clear hb
  have rw0 := xrow.cell 0
  have rw1 := xrow.cell 1
  have rw2 := xrow.cell 2
  have rw3 := xrow.cell 3
  simp only [List.getElem?_toArray, List.getElem?_cons_zero, List.getElem?_cons_succ] at rw0 rw1 rw2 rw3
  refine (usable1_fra w1.heap.size a bia aia kia cia dia eia lia mia _ rw0 rw1 rw2 rw3 ia sa).mono ?_
  rintro e w2 ⟨rfl, hb⟩
  clear xrow rw0 rw1 rw2 rw3
  replace xia := xia.on hb
  replace ia := ia.on hb
  replace hB := hB.trans (hb.mono hB.size)
  clear hb
  have pia := xia.all4
  have ltia := xia.lt
  go_wp2_with fail
  clear ltia
  clear pia
  refine (HN1.out _).mono ?_
  rintro e w3 ⟨⟨v, rfl, fo1⟩, hb⟩
  obtain ⟨bx1, ax1, kx1, cx1, rfl⟩ := fo1.opened
  replace xia := xia.on hb
  replace ia := ia.on hb
  have hz3 := hb.size
  try simp at hz3
  replace hB := hB.trans (hb.mono hB.size)
  clear hb
  have pia := xia.all4
  have ltia := xia.lt
  go_wp2_with fail
  clear ltia
  clear pia
  have hb := ((Below.refl w3.heap.size w3).alloc (Nat.le_refl _) (.cells #[.bool bx1, .slice ax1 kx1 cx1] 24))
  have xone : Bk _ w3.heap.size #[.bool bx1, .slice ax1 kx1 cx1] 24 := (Bk.new w3 #[.bool bx1, .slice ax1 kx1 cx1] 24)
  replace xia := xia.on hb
  replace ia := ia.on hb
  replace fo1 := fo1.on hb
  replace hB := hB.trans (hb.mono hB.size)
  clear hb
  obtain ⟨qone, hqone⟩ : ∃ W, W = (w3.alloc (.cells #[.bool bx1, .slice ax1 kx1 cx1] 24)) := ⟨_, rfl⟩
  rw [← hqone] at hB xia xone ia fo1 ⊢
  clear hqone
  refine (HF.out _ _ ia).mono ?_
  rintro e w4 ⟨⟨v, rfl, ff⟩, hb⟩
  obtain ⟨bx2, ax2, kx2, cx2, rfl⟩ := ff.opened
  replace xia := xia.on hb
  replace xone := xone.on hb
  replace ia := ia.on hb
  replace fo1 := fo1.on hb
  have hz4 := hb.size
  try simp at hz4
  replace hB := hB.trans (hb.mono hB.size)
  clear hb
  have pia := xia.all4
  have pone := xone.all2
  have ltia := xia.lt
  have ltone := xone.lt
  go_wp2_with fail
  clear ltia
  clear ltone
  clear pia pone
  have hb := ((Below.refl w4.heap.size w4).alloc (Nat.le_refl _) (.cells #[.bool bx2, .slice ax2 kx2 cx2] 24))
  have xm : Bk _ w4.heap.size #[.bool bx2, .slice ax2 kx2 cx2] 24 := (Bk.new w4 #[.bool bx2, .slice ax2 kx2 cx2] 24)
  replace xia := xia.on hb
  replace xone := xone.on hb
  replace ia := ia.on hb
  replace fo1 := fo1.on hb
  replace ff := ff.on hb
  replace hB := hB.trans (hb.mono hB.size)
  clear hb
  obtain ⟨qm, hqm⟩ : ∃ W, W = (w4.alloc (.cells #[.bool bx2, .slice ax2 kx2 cx2] 24)) := ⟨_, rfl⟩
  rw [← hqm] at hB xia xone xm ia fo1 ff ⊢
  clear hqm
  refine (HC.out _ _ ia).mono ?_
  rintro e w5 ⟨⟨v, rfl, fg⟩, hb⟩
  obtain ⟨bx3, ax3, kx3, cx3, rfl⟩ := fg.opened
  replace xia := xia.on hb
  replace xone := xone.on hb
  replace xm := xm.on hb
  replace ia := ia.on hb
  replace fo1 := fo1.on hb
  replace ff := ff.on hb
  have hz5 := hb.size
  try simp at hz5
  replace hB := hB.trans (hb.mono hB.size)
  clear hb
  have pia := xia.all4
  have pone := xone.all2
  have pm := xm.all2
  have ltia := xia.lt
  have ltone := xone.lt
  have ltm := xm.lt
  go_wp2_with fail
  clear ltia
  clear ltone
  clear ltm
  clear pia pone pm
  have hb := ((Below.refl w5.heap.size w5).alloc (Nat.le_refl _) (.cells #[.bool bx3, .slice ax3 kx3 cx3] 24))
  have xn : Bk _ w5.heap.size #[.bool bx3, .slice ax3 kx3 cx3] 24 := (Bk.new w5 #[.bool bx3, .slice ax3 kx3 cx3] 24)
  replace xia := xia.on hb
  replace xone := xone.on hb
  replace xm := xm.on hb
  replace ia := ia.on hb
  replace fo1 := fo1.on hb
  replace ff := ff.on hb
  replace fg := fg.on hb
  replace hB := hB.trans (hb.mono hB.size)
  clear hb
  obtain ⟨qn, hqn⟩ : ∃ W, W = (w5.alloc (.cells #[.bool bx3, .slice ax3 kx3 cx3] 24)) := ⟨_, rfl⟩
  rw [← hqn] at hB xia xone xm xn ia fo1 ff fg ⊢
  clear hqn
  refine (HM.out _ _ ia).mono ?_
  rintro e w6 ⟨⟨v, rfl, fm⟩, hb⟩
  obtain ⟨bx4, ax4, kx4, cx4, dx4, ex4, lx4, mx4, rfl⟩ := fm.opened
  replace xia := xia.on hb
  replace xone := xone.on hb
  replace xm := xm.on hb
  replace xn := xn.on hb
  replace ia := ia.on hb
  replace fo1 := fo1.on hb
  replace ff := ff.on hb
  replace fg := fg.on hb
  have hz6 := hb.size
  try simp at hz6
  replace hB := hB.trans (hb.mono hB.size)
  clear hb
  have pia := xia.all4
  have pone := xone.all2
  have pm := xm.all2
  have pn := xn.all2
  have ltia := xia.lt
  have ltone := xone.lt
  have ltm := xm.lt
  have ltn := xn.lt
  go_wp2_with fail
  clear ltia
  clear ltone
  clear ltm
  clear ltn
  clear pia pone pm pn
  have hb := ((Below.refl w6.heap.size w6).alloc (Nat.le_refl _) (.cells #[.bool bx4, .slice ax4 kx4 cx4, .bool dx4, .slice ex4 lx4 mx4] 26))
  have xmi : Bk _ w6.heap.size #[.bool bx4, .slice ax4 kx4 cx4, .bool dx4, .slice ex4 lx4 mx4] 26 := (Bk.new w6 #[.bool bx4, .slice ax4 kx4 cx4, .bool dx4, .slice ex4 lx4 mx4] 26)
  replace xia := xia.on hb
  replace xone := xone.on hb
  replace xm := xm.on hb
  replace xn := xn.on hb
  replace ia := ia.on hb
  replace fo1 := fo1.on hb
  replace ff := ff.on hb
  replace fg := fg.on hb
  replace fm := fm.on hb
  replace hB := hB.trans (hb.mono hB.size)
  clear hb
  obtain ⟨qmi, hqmi⟩ : ∃ W, W = (w6.alloc (.cells #[.bool bx4, .slice ax4 kx4 cx4, .bool dx4, .slice ex4 lx4 mx4] 26)) := ⟨_, rfl⟩
  rw [← hqmi] at hB xia xone xm xn xmi ia fo1 ff fg fm ⊢
  clear hqmi
  refine (HO.out _ _ fm).mono ?_
  rintro e w7 ⟨⟨v, rfl, fo⟩, hb⟩
  obtain ⟨bx5, ax5, kx5, cx5, rfl⟩ := fo.opened
  replace xia := xia.on hb
  replace xone := xone.on hb
  replace xm := xm.on hb
  replace xn := xn.on hb
  replace xmi := xmi.on hb
  replace ia := ia.on hb
  replace fo1 := fo1.on hb
  replace ff := ff.on hb
  replace fg := fg.on hb
  replace fm := fm.on hb
  have hz7 := hb.size
  try simp at hz7
  replace hB := hB.trans (hb.mono hB.size)
  clear hb
  have pia := xia.all4
  have pone := xone.all2
  have pm := xm.all2
  have pn := xn.all2
  have pmi := xmi.all4
  have ltia := xia.lt
  have ltone := xone.lt
  have ltm := xm.lt
  have ltn := xn.lt
  have ltmi := xmi.lt
  go_wp2_with fail
  clear ltia
  clear ltone
  clear ltm
  clear ltn
  clear ltmi
  clear pia pone pm pn pmi
  have hb := ((Below.refl w7.heap.size w7).alloc (Nat.le_refl _) (.cells #[.bool bx5, .slice ax5 kx5 cx5] 24))
  have xo : Bk _ w7.heap.size #[.bool bx5, .slice ax5 kx5 cx5] 24 := (Bk.new w7 #[.bool bx5, .slice ax5 kx5 cx5] 24)
  replace xia := xia.on hb
  replace xone := xone.on hb
  replace xm := xm.on hb
  replace xn := xn.on hb
  replace xmi := xmi.on hb
  replace ia := ia.on hb
  replace fo1 := fo1.on hb
  replace ff := ff.on hb
  replace fg := fg.on hb
  replace fm := fm.on hb
  replace fo := fo.on hb
  replace hB := hB.trans (hb.mono hB.size)
  clear hb
  obtain ⟨qo, hqo⟩ : ∃ W, W = (w7.alloc (.cells #[.bool bx5, .slice ax5 kx5 cx5] 24)) := ⟨_, rfl⟩
  rw [← hqo] at hB xia xone xm xn xmi xo ia fo1 ff fg fm fo ⊢
  clear hqo
  clear fm
  clear xmi
  refine (HL.out _ _ _ ff fo1).mono ?_
  rintro e w8 ⟨⟨v, rfl, fl⟩, hb⟩
  obtain ⟨bx6, ax6, kx6, cx6, dx6, ex6, lx6, mx6, rfl⟩ := fl.opened
  replace xia := xia.on hb
  replace xone := xone.on hb
  replace xm := xm.on hb
  replace xn := xn.on hb
  replace xo := xo.on hb
  replace ia := ia.on hb
  replace fo1 := fo1.on hb
  replace ff := ff.on hb
  replace fg := fg.on hb
  replace fo := fo.on hb
  have hz8 := hb.size
  try simp at hz8
  replace hB := hB.trans (hb.mono hB.size)
  clear hb
  have pia := xia.all4
  have pone := xone.all2
  have pm := xm.all2
  have pn := xn.all2
  have po := xo.all2
  have ltia := xia.lt
  have ltone := xone.lt
  have ltm := xm.lt
  have ltn := xn.lt
  have lto := xo.lt
  go_wp2_with fail
  clear ltia
  clear ltone
  clear ltm
  clear ltn
  clear lto
  clear pia pone pm pn po
  have hb := ((Below.refl w8.heap.size w8).alloc (Nat.le_refl _) (.cells #[.bool bx6, .slice ax6 kx6 cx6, .bool dx6, .slice ex6 lx6 mx6] 26))
  have xlo : Bk _ w8.heap.size #[.bool bx6, .slice ax6 kx6 cx6, .bool dx6, .slice ex6 lx6 mx6] 26 := (Bk.new w8 #[.bool bx6, .slice ax6 kx6 cx6, .bool dx6, .slice ex6 lx6 mx6] 26)
  replace xia := xia.on hb
  replace xone := xone.on hb
  replace xm := xm.on hb
  replace xn := xn.on hb
  replace xo := xo.on hb
  replace ia := ia.on hb
  replace fo1 := fo1.on hb
  replace ff := ff.on hb
  replace fg := fg.on hb
  replace fo := fo.on hb
  replace fl := fl.on hb
  replace hB := hB.trans (hb.mono hB.size)
  clear hb
  obtain ⟨qlo, hqlo⟩ : ∃ W, W = (w8.alloc (.cells #[.bool bx6, .slice ax6 kx6 cx6, .bool dx6, .slice ex6 lx6 mx6] 26)) := ⟨_, rfl⟩
  rw [← hqlo] at hB xia xone xm xn xo xlo ia fo1 ff fg fo fl ⊢
  clear hqlo
  refine (HH.out _ _ _ fg fo1).mono ?_
  rintro e w9 ⟨⟨v, rfl, fh⟩, hb⟩
  obtain ⟨bx7, ax7, kx7, cx7, dx7, ex7, lx7, mx7, rfl⟩ := fh.opened
  replace xia := xia.on hb
  replace xone := xone.on hb
  replace xm := xm.on hb
  replace xn := xn.on hb
  replace xo := xo.on hb
  replace xlo := xlo.on hb
  replace ia := ia.on hb
  replace fo1 := fo1.on hb
  replace ff := ff.on hb
  replace fg := fg.on hb
  replace fo := fo.on hb
  replace fl := fl.on hb
  have hz9 := hb.size
  try simp at hz9
  replace hB := hB.trans (hb.mono hB.size)
  clear hb
  have pia := xia.all4
  have pone := xone.all2
  have pm := xm.all2
  have pn := xn.all2
  have po := xo.all2
  have plo := xlo.all4
  have ltia := xia.lt
  have ltone := xone.lt
  have ltm := xm.lt
  have ltn := xn.lt
  have lto := xo.lt
  have ltlo := xlo.lt
  go_wp2_with fail
  clear ltia
  clear ltone
  clear ltm
  clear ltn
  clear lto
  clear ltlo
  clear pia pone pm pn po plo
  have hb := ((Below.refl w9.heap.size w9).alloc (Nat.le_refl _) (.cells #[.bool bx7, .slice ax7 kx7 cx7, .bool dx7, .slice ex7 lx7 mx7] 26))
  have xhi : Bk _ w9.heap.size #[.bool bx7, .slice ax7 kx7 cx7, .bool dx7, .slice ex7 lx7 mx7] 26 := (Bk.new w9 #[.bool bx7, .slice ax7 kx7 cx7, .bool dx7, .slice ex7 lx7 mx7] 26)
  replace xia := xia.on hb
  replace xone := xone.on hb
  replace xm := xm.on hb
  replace xn := xn.on hb
  replace xo := xo.on hb
  replace xlo := xlo.on hb
  replace ia := ia.on hb
  replace fo1 := fo1.on hb
  replace ff := ff.on hb
  replace fg := fg.on hb
  replace fo := fo.on hb
  replace fl := fl.on hb
  replace fh := fh.on hb
  replace hB := hB.trans (hb.mono hB.size)
  clear hb
  obtain ⟨qhi, hqhi⟩ : ∃ W, W = (w9.alloc (.cells #[.bool bx7, .slice ax7 kx7 cx7, .bool dx7, .slice ex7 lx7 mx7] 26)) := ⟨_, rfl⟩
  rw [← hqhi] at hB xia xone xm xn xo xlo xhi ia fo1 ff fg fo fl fh ⊢
  clear hqhi
  refine (HA.out _ _ _ ff fo1).mono ?_
  rintro e w10 ⟨⟨v, rfl, fx⟩, hb⟩
  obtain ⟨bx8, ax8, kx8, cx8, rfl⟩ := fx.opened
  replace xia := xia.on hb
  replace xone := xone.on hb
  replace xm := xm.on hb
  replace xn := xn.on hb
  replace xo := xo.on hb
  replace xlo := xlo.on hb
  replace xhi := xhi.on hb
  replace ia := ia.on hb
  replace fo1 := fo1.on hb
  replace ff := ff.on hb
  replace fg := fg.on hb
  replace fo := fo.on hb
  replace fl := fl.on hb
  replace fh := fh.on hb
  have hz10 := hb.size
  try simp at hz10
  replace hB := hB.trans (hb.mono hB.size)
  clear hb
  have pia := xia.all4
  have pone := xone.all2
  have pm := xm.all2
  have pn := xn.all2
  have po := xo.all2
  have plo := xlo.all4
  have phi := xhi.all4
  have ltia := xia.lt
  have ltone := xone.lt
  have ltm := xm.lt
  have ltn := xn.lt
  have lto := xo.lt
  have ltlo := xlo.lt
  have lthi := xhi.lt
  go_wp2_with fail
  clear ltia
  clear ltone
  clear ltm
  clear ltn
  clear lto
  clear ltlo
  clear lthi
  clear pia pone pm pn po plo phi
  have hb := ((Below.refl w10.heap.size w10).alloc (Nat.le_refl _) (.cells #[.bool bx8, .slice ax8 kx8 cx8] 24))
  have xne : Bk _ w10.heap.size #[.bool bx8, .slice ax8 kx8 cx8] 24 := (Bk.new w10 #[.bool bx8, .slice ax8 kx8 cx8] 24)
  replace xia := xia.on hb
  replace xone := xone.on hb
  replace xm := xm.on hb
  replace xn := xn.on hb
  replace xo := xo.on hb
  replace xlo := xlo.on hb
  replace xhi := xhi.on hb
  replace ia := ia.on hb
  replace fo1 := fo1.on hb
  replace ff := ff.on hb
  replace fg := fg.on hb
  replace fo := fo.on hb
  replace fl := fl.on hb
  replace fh := fh.on hb
  replace fx := fx.on hb
  replace hB := hB.trans (hb.mono hB.size)
  clear hb
  obtain ⟨qne, hqne⟩ : ∃ W, W = (w10.alloc (.cells #[.bool bx8, .slice ax8 kx8 cx8] 24)) := ⟨_, rfl⟩
  rw [← hqne] at hB xia xone xm xn xo xlo xhi xne ia fo1 ff fg fo fl fh fx ⊢
  clear hqne
  clear fo1
  clear xone
  refine (HS.out _ _ _ fg fo).mono ?_
  rintro e w11 ⟨⟨v, rfl, fs⟩, hb⟩
  obtain ⟨bx9, ax9, kx9, cx9, rfl⟩ := fs.opened
  have hk9 := (num_len fs).1
  rw [show (0 : Int).natAbs = 0 from rfl, dig_zero, List.length_nil] at hk9
  subst hk9
  clear fs
  replace xia := xia.on hb
  replace xm := xm.on hb
  replace xn := xn.on hb
  replace xo := xo.on hb
  replace xlo := xlo.on hb
  replace xhi := xhi.on hb
  replace xne := xne.on hb
  replace ia := ia.on hb
  replace ff := ff.on hb
  replace fg := fg.on hb
  replace fo := fo.on hb
  replace fl := fl.on hb
  replace fh := fh.on hb
  replace fx := fx.on hb
  have hz11 := hb.size
  try simp at hz11
  replace hB := hB.trans (hb.mono hB.size)
  clear hb
  clear fo
  clear xo
  have pia := xia.all4
  have pm := xm.all2
  have pn := xn.all2
  have plo := xlo.all4
  have phi := xhi.all4
  have pne := xne.all2
  have ltia := xia.lt
  have ltm := xm.lt
  have ltn := xn.lt
  have ltlo := xlo.lt
  have lthi := xhi.lt
  have ltne := xne.lt
  go_wp2_with fail
  clear ltia
  clear ltm
  clear ltn
  clear ltlo
  clear lthi
  clear ltne
  clear pia pm pn plo phi pne
  have hb := ((Below.refl w11.heap.size w11).alloc (Nat.le_refl _) (.cells #[.bool bx9, .slice ax9 0 cx9] 24))
  have xsu : Bk _ w11.heap.size #[.bool bx9, .slice ax9 0 cx9] 24 := (Bk.new w11 #[.bool bx9, .slice ax9 0 cx9] 24)
  replace xia := xia.on hb
  replace xm := xm.on hb
  replace xn := xn.on hb
  replace xlo := xlo.on hb
  replace xhi := xhi.on hb
  replace xne := xne.on hb
  replace ia := ia.on hb
  replace ff := ff.on hb
  replace fg := fg.on hb
  replace fl := fl.on hb
  replace fh := fh.on hb
  replace fx := fx.on hb
  replace hB := hB.trans (hb.mono hB.size)
  clear hb
  obtain ⟨qsu, hqsu⟩ : ∃ W, W = (w11.alloc (.cells #[.bool bx9, .slice ax9 0 cx9] 24)) := ⟨_, rfl⟩
  rw [← hqsu] at hB xia xm xn xlo xhi xne xsu ia ff fg fl fh fx ⊢
  clear hqsu
  refine (HK1.out _ _ _ fl ia).mono ?_
  rintro e w12 ⟨rfl, hb⟩
  replace xia := xia.on hb
  replace xm := xm.on hb
  replace xn := xn.on hb
  replace xlo := xlo.on hb
  replace xhi := xhi.on hb
  replace xne := xne.on hb
  replace xsu := xsu.on hb
  replace ia := ia.on hb
  replace ff := ff.on hb
  replace fg := fg.on hb
  replace fl := fl.on hb
  replace fh := fh.on hb
  replace fx := fx.on hb
  have hz12 := hb.size
  try simp at hz12
  replace hB := hB.trans (hb.mono hB.size)
  clear hb
  have pia := xia.all4
  have pm := xm.all2
  have pn := xn.all2
  have plo := xlo.all4
  have phi := xhi.all4
  have pne := xne.all2
  have psu := xsu.all2
  have ltia := xia.lt
  have ltm := xm.lt
  have ltn := xn.lt
  have ltlo := xlo.lt
  have lthi := xhi.lt
  have ltne := xne.lt
  have ltsu := xsu.lt
  go_wp2_with fail
  clear ltia
  clear ltm
  clear ltn
  clear ltlo
  clear lthi
  clear ltne
  clear ltsu
  clear pia pm pn plo phi pne psu
  refine (HK2.out _ _ _ fh ia).mono ?_
  rintro e w13 ⟨rfl, hb⟩
  replace xia := xia.on hb
  replace xm := xm.on hb
  replace xn := xn.on hb
  replace xlo := xlo.on hb
  replace xhi := xhi.on hb
  replace xne := xne.on hb
  replace xsu := xsu.on hb
  replace ia := ia.on hb
  replace ff := ff.on hb
  replace fg := fg.on hb
  replace fl := fl.on hb
  replace fh := fh.on hb
  replace fx := fx.on hb
  have hz13 := hb.size
  try simp at hz13
  replace hB := hB.trans (hb.mono hB.size)
  clear hb
  have pia := xia.all4
  have pm := xm.all2
  have pn := xn.all2
  have plo := xlo.all4
  have phi := xhi.all4
  have pne := xne.all2
  have psu := xsu.all2
  have ltia := xia.lt
  have ltm := xm.lt
  have ltn := xn.lt
  have ltlo := xlo.lt
  have lthi := xhi.lt
  have ltne := xne.lt
  have ltsu := xsu.lt
  go_wp2_with fail
  clear ltia
  clear ltm
  clear ltn
  clear ltlo
  clear lthi
  clear ltne
  clear ltsu
  clear pia pm pn plo phi pne psu
  refine (HK1.out _ _ _ fl ia).mono ?_
  rintro e w14 ⟨rfl, hb⟩
  replace xia := xia.on hb
  replace xm := xm.on hb
  replace xn := xn.on hb
  replace xlo := xlo.on hb
  replace xhi := xhi.on hb
  replace xne := xne.on hb
  replace xsu := xsu.on hb
  replace ia := ia.on hb
  replace ff := ff.on hb
  replace fg := fg.on hb
  replace fl := fl.on hb
  replace fh := fh.on hb
  replace fx := fx.on hb
  have hz14 := hb.size
  try simp at hz14
  replace hB := hB.trans (hb.mono hB.size)
  clear hb
  have pia := xia.all4
  have pm := xm.all2
  have pn := xn.all2
  have plo := xlo.all4
  have phi := xhi.all4
  have pne := xne.all2
  have psu := xsu.all2
  have ltia := xia.lt
  have ltm := xm.lt
  have ltn := xn.lt
  have ltlo := xlo.lt
  have lthi := xhi.lt
  have ltne := xne.lt
  have ltsu := xsu.lt
  go_wp2_with fail
  clear ltia
  clear ltm
  clear ltn
  clear ltlo
  clear lthi
  clear ltne
  clear ltsu
  clear pia pm pn plo phi pne psu
  refine (HI.out _ ia).mono ?_
  rintro e w15 ⟨rfl, hb⟩
  replace xia := xia.on hb
  replace xm := xm.on hb
  replace xn := xn.on hb
  replace xlo := xlo.on hb
  replace xhi := xhi.on hb
  replace xne := xne.on hb
  replace xsu := xsu.on hb
  replace ia := ia.on hb
  replace ff := ff.on hb
  replace fg := fg.on hb
  replace fl := fl.on hb
  replace fh := fh.on hb
  replace fx := fx.on hb
  have hz15 := hb.size
  try simp at hz15
  replace hB := hB.trans (hb.mono hB.size)
  clear hb
  have pia := xia.all4
  have pm := xm.all2
  have pn := xn.all2
  have plo := xlo.all4
  have phi := xhi.all4
  have pne := xne.all2
  have psu := xsu.all2
  have ltia := xia.lt
  have ltm := xm.lt
  have ltn := xn.lt
  have ltlo := xlo.lt
  have lthi := xhi.lt
  have ltne := xne.lt
  have ltsu := xsu.lt
  go_wp2_with fail
  clear ltia
  clear ltm
  clear ltn
  clear ltlo
  clear lthi
  clear ltne
  clear ltsu
  clear pia pm pn plo phi pne psu
  refine (HT.out _ _ _ fx fg).mono ?_
  rintro e w16 ⟨rfl, hb⟩
  replace xia := xia.on hb
  replace xm := xm.on hb
  replace xn := xn.on hb
  replace xlo := xlo.on hb
  replace xhi := xhi.on hb
  replace xne := xne.on hb
  replace xsu := xsu.on hb
  replace ia := ia.on hb
  replace ff := ff.on hb
  replace fg := fg.on hb
  replace fl := fl.on hb
  replace fh := fh.on hb
  replace fx := fx.on hb
  have hz16 := hb.size
  try simp at hz16
  replace hB := hB.trans (hb.mono hB.size)
  clear hb
  have pia := xia.all4
  have pm := xm.all2
  have pn := xn.all2
  have plo := xlo.all4
  have phi := xhi.all4
  have pne := xne.all2
  have psu := xsu.all2
  have ltia := xia.lt
  have ltm := xm.lt
  have ltn := xn.lt
  have ltlo := xlo.lt
  have lthi := xhi.lt
  have ltne := xne.lt
  have ltsu := xsu.lt
  go_wp2_with fail
  clear ltia
  clear ltm
  clear ltn
  clear ltlo
  clear lthi
  clear ltne
  clear ltsu
  clear pia pm pn plo phi pne psu
  refine (HK2.out _ _ _ fh ia).mono ?_
  rintro e w17 ⟨rfl, hb⟩
  replace xia := xia.on hb
  replace xm := xm.on hb
  replace xn := xn.on hb
  replace xlo := xlo.on hb
  replace xhi := xhi.on hb
  replace xne := xne.on hb
  replace xsu := xsu.on hb
  replace ia := ia.on hb
  replace ff := ff.on hb
  replace fg := fg.on hb
  replace fl := fl.on hb
  replace fh := fh.on hb
  replace fx := fx.on hb
  have hz17 := hb.size
  try simp at hz17
  replace hB := hB.trans (hb.mono hB.size)
  clear hb
  go_wp2
  go_ret
  exact ⟨rfl, hB⟩
theorem FracFloors_core (a : Rat) (sa : Fz 40 40 a) (bia : Bool) (aia : Option Addr) (kia cia : Nat) (dia : Bool) (eia : Option Addr) (lia mia : Nat) (w : World) (ia : Fra w (.agg #[.bool bia, .slice aia kia cia, .bool dia, .slice eia lia mia]) a) :
    Calls Tryz.prog 10 #[.agg #[.bool bia, .slice aia kia cia, .bool dia, .slice eia lia mia]] w fun e w' => e = .returned (.bool true) ∧ Below w.heap.size w w' := by
  by_cases hd : a.den = 1
  · by_cases hr : a.num < -9223372036854775808 ∨ 9223372036854775807 < a.num
    · exact FracFloors_B a sa bia aia kia cia dia eia lia mia hd hr w ia
    · exact FracFloors_A a sa bia aia kia cia dia eia lia mia hd (by omega) (by omega) w ia
  · exact FracFloors_C a sa bia aia kia cia dia eia lia mia hd w ia
end Go.Proofs.YthlclegajldphaaGreat
