/- A part of the proofs about fractions. -/
import Derived.Test.YthlclegajldphaaGreatQz1
import Derived.Test.YthlclegajldphaaGreatQz2
import Derived.Test.YthlclegajldphaaGreatQz3
import Derived.Test.YthlclegajldphaaGreatQz4
import Derived.Test.YthlclegajldphaaGreatQz5
import Derived.Test.YthlclegajldphaaGreatQz6
import Derived.Test.YthlclegajldphaaGreatQz7
import Derived.Test.YthlclegajldphaaGreatQz8
import Derived.Test.YthlclegajldphaaGreatQz9
import Derived.Test.YthlclegajldphaaGreatQz10
import Derived.Test.YthlclegajldphaaGreatQz11
import Derived.Test.YthlclegajldphaaGreatQz12
import Derived.Test.YthlclegajldphaaGreatQz13
import Derived.Test.YthlclegajldphaaGreatQz14
import Derived.Test.YthlclegajldphaaGreatQz15
import Derived.Test.YthlclegajldphaaGreatQz16
import Derived.Test.YthlclegajldphaaGreatQz17
import Derived.Test.YthlclegajldphaaGreatQz18
import Derived.Test.YthlclegajldphaaGreatQz19
import Derived.Test.YthlclegajldphaaGreatQz20
import Derived.Test.YthlclegajldphaaGreatQz21
import Derived.Test.YthlclegajldphaaGreatQz22
import Derived.Test.YthlclegajldphaaGreatQz23
import Derived.Test.YthlclegajldphaaGreatQz24
import Derived.Test.YthlclegajldphaaGreatQz25
import Derived.Test.YthlclegajldphaaGreatQz26
import Derived.Test.YthlclegajldphaaGreatQz27
import Derived.Test.YthlclegajldphaaGreatQz28
import Derived.Test.YthlclegajldphaaGreatRows
namespace Go.Proofs.YthlclegajldphaaGreat
open Go.RowKit Wh
set_option maxRecDepth 100000 in
set_option maxHeartbeats 8000000 in
theorem FracField_zero (a b c : Rat) (sa : Fz 40 40 a) (sb : Fz 40 40 b) (sc : Fz 40 40 c) (bia : Bool) (aia : Option Addr) (kia cia : Nat) (dia : Bool) (eia : Option Addr) (lia mia : Nat) (bib : Bool) (aib : Option Addr) (kib cib : Nat) (dib : Bool) (eib : Option Addr) (lib mib : Nat) (bic : Bool) (aic : Option Addr) (kic cic : Nat) (dic : Bool) (eic : Option Addr) (lic mic : Nat) (hb0 : b = 0) (w : World) (ia : Fra w (.agg #[.bool bia, .slice aia kia cia, .bool dia, .slice eia lia mia]) a) (ib : Fra w (.agg #[.bool bib, .slice aib kib cib, .bool dib, .slice eib lib mib]) b) (ic : Fra w (.agg #[.bool bic, .slice aic kic cic, .bool dic, .slice eic lic mic]) c) :
    Calls Tryz.prog 7 #[.agg #[.bool bia, .slice aia kia cia, .bool dia, .slice eia lia mia], .agg #[.bool bib, .slice aib kib cib, .bool dib, .slice eib lib mib], .agg #[.bool bic, .slice aic kic cic, .bool dic, .slice eic lic mic]] w fun e w' => e = .returned (.bool true) ∧ Below w.heap.size w w' := by
  have HK0 := Lib.hid (fun W => frFromInt_lit 0 (0) (by decide +kernel) (by decide) (by decide) W)
  have HK1 := Lib.hid (fun W => frFromInt_lit 1 (1) (by decide +kernel) (by decide) (by decide) W)
  have HK2 := Lib.hid (fun vx vy W (h : Fra W vx (a)) (g : Fra W vy (b)) => law2_sum_any vx vy (a) (b) (a + b) rfl (Fz.mono (q := a) sa (by decide) (by decide)) (Fz.mono (q := b) sb (by decide) (by decide)) (Fz.mono (q := (a + b)) (Fz.add sa sb) (by decide) (by decide)) W h g)
  have HK3 := Lib.hid (fun vx vy W (h : Fra W vx (b)) (g : Fra W vy (a)) => law2_sum_any vx vy (b) (a) (a + b) (by grind) (Fz.mono (q := b) sb (by decide) (by decide)) (Fz.mono (q := a) sa (by decide) (by decide)) (Fz.mono (q := (a + b)) (Fz.add sa sb) (by decide) (by decide)) W h g)
  have HK4 := Lib.hid (fun vx vy W (h : Fra W vx (a + b)) (g : Fra W vy (a + b)) => law2_equal_any vx vy (a + b) (Fz.mono (q := (a + b)) (Fz.add sa sb) (by decide) (by decide)) W h g)
  have HK5 := Lib.hid (fun vx vy W (h : Fra W vx (a)) (g : Fra W vy (b)) => law2_product_any vx vy (a) (b) (a * b) rfl (Fz.mono (q := a) sa (by decide) (by decide)) (Fz.mono (q := b) sb (by decide) (by decide)) (Fz.mono (q := (a * b)) (Fz.mul sa sb) (by decide) (by decide)) W h g)
  have HK6 := Lib.hid (fun vx vy W (h : Fra W vx (b)) (g : Fra W vy (a)) => law2_product_any vx vy (b) (a) (a * b) (by grind) (Fz.mono (q := b) sb (by decide) (by decide)) (Fz.mono (q := a) sa (by decide) (by decide)) (Fz.mono (q := (a * b)) (Fz.mul sa sb) (by decide) (by decide)) W h g)
  have HK7 := Lib.hid (fun vx vy W (h : Fra W vx (a * b)) (g : Fra W vy (a * b)) => law2_equal_any vx vy (a * b) (Fz.mono (q := (a * b)) (Fz.mul sa sb) (by decide) (by decide)) W h g)
  have HK8 := Lib.hid (fun vx vy W (h : Fra W vx (a + b)) (g : Fra W vy (c)) => law2_sum_any vx vy (a + b) (c) ((a + b) + c) rfl (Fz.mono (q := (a + b)) (Fz.add sa sb) (by decide) (by decide)) (Fz.mono (q := c) sc (by decide) (by decide)) (Fz.mono (q := (a + b) + c) (Fz.add (Fz.add sa sb) sc) (by decide) (by decide)) W h g)
  have HK9 := Lib.hid (fun vx vy W (h : Fra W vx (b)) (g : Fra W vy (c)) => law2_sum_any vx vy (b) (c) (b + c) rfl (Fz.mono (q := b) sb (by decide) (by decide)) (Fz.mono (q := c) sc (by decide) (by decide)) (Fz.mono (q := (b + c)) (Fz.add sb sc) (by decide) (by decide)) W h g)
  have HK10 := Lib.hid (fun vx vy W (h : Fra W vx (a)) (g : Fra W vy (b + c)) => law2_sum_any vx vy (a) (b + c) ((a + b) + c) (by grind) (Fz.mono (q := a) sa (by decide) (by decide)) (Fz.mono (q := (b + c)) (Fz.add sb sc) (by decide) (by decide)) (Fz.mono (q := (a + b) + c) (Fz.add (Fz.add sa sb) sc) (by decide) (by decide)) W h g)
  have HK11 := Lib.hid (fun vx vy W (h : Fra W vx ((a + b) + c)) (g : Fra W vy ((a + b) + c)) => law2_equal_any vx vy ((a + b) + c) (Fz.mono (q := (a + b) + c) (Fz.add (Fz.add sa sb) sc) (by decide) (by decide)) W h g)
  have HK12 := Lib.hid (fun vx vy W (h : Fra W vx (a * b)) (g : Fra W vy (c)) => law2_product_any vx vy (a * b) (c) ((a * b) * c) rfl (Fz.mono (q := (a * b)) (Fz.mul sa sb) (by decide) (by decide)) (Fz.mono (q := c) sc (by decide) (by decide)) (Fz.mono (q := (a * b) * c) (Fz.mul (Fz.mul sa sb) sc) (by decide) (by decide)) W h g)
  have HK13 := Lib.hid (fun vx vy W (h : Fra W vx (b)) (g : Fra W vy (c)) => law2_product_any vx vy (b) (c) (b * c) rfl (Fz.mono (q := b) sb (by decide) (by decide)) (Fz.mono (q := c) sc (by decide) (by decide)) (Fz.mono (q := (b * c)) (Fz.mul sb sc) (by decide) (by decide)) W h g)
  have HK14 := Lib.hid (fun vx vy W (h : Fra W vx (a)) (g : Fra W vy (b * c)) => law2_product_any vx vy (a) (b * c) ((a * b) * c) (by grind) (Fz.mono (q := a) sa (by decide) (by decide)) (Fz.mono (q := (b * c)) (Fz.mul sb sc) (by decide) (by decide)) (Fz.mono (q := (a * b) * c) (Fz.mul (Fz.mul sa sb) sc) (by decide) (by decide)) W h g)
  have HK15 := Lib.hid (fun vx vy W (h : Fra W vx ((a * b) * c)) (g : Fra W vy ((a * b) * c)) => law2_equal_any vx vy ((a * b) * c) (Fz.mono (q := (a * b) * c) (Fz.mul (Fz.mul sa sb) sc) (by decide) (by decide)) W h g)
  have HK16 := Lib.hid (fun vx vy W (h : Fra W vx (a)) (g : Fra W vy (b + c)) => law2_product_any vx vy (a) (b + c) (a * (b + c)) rfl (Fz.mono (q := a) sa (by decide) (by decide)) (Fz.mono (q := (b + c)) (Fz.add sb sc) (by decide) (by decide)) (Fz.mono (q := (a * (b + c))) (Fz.mul sa (Fz.add sb sc)) (by decide) (by decide)) W h g)
  have HK17 := Lib.hid (fun vx vy W (h : Fra W vx (a)) (g : Fra W vy (c)) => law2_product_any vx vy (a) (c) (a * c) rfl (Fz.mono (q := a) sa (by decide) (by decide)) (Fz.mono (q := c) sc (by decide) (by decide)) (Fz.mono (q := (a * c)) (Fz.mul sa sc) (by decide) (by decide)) W h g)
  have HK18 := Lib.hid (fun vx vy W (h : Fra W vx (a * b)) (g : Fra W vy (a * c)) => law2_sum_any vx vy (a * b) (a * c) (a * (b + c)) (by grind) (Fz.mono (q := (a * b)) (Fz.mul sa sb) (by decide) (by decide)) (Fz.mono (q := (a * c)) (Fz.mul sa sc) (by decide) (by decide)) (Fz.mono (q := (a * (b + c))) (Fz.mul sa (Fz.add sb sc)) (by decide) (by decide)) W h g)
  have HK19 := Lib.hid (fun vx vy W (h : Fra W vx (a * (b + c))) (g : Fra W vy (a * (b + c))) => law2_equal_any vx vy (a * (b + c)) (Fz.mono (q := (a * (b + c))) (Fz.mul sa (Fz.add sb sc)) (by decide) (by decide)) W h g)
  have HK20 := Lib.hid (fun vx vy W (h : Fra W vx (a)) (g : Fra W vy (0)) => law2_sum_any vx vy (a) (0) (a) (by grind) (Fz.mono (q := a) sa (by decide) (by decide)) (Fz.mono (q := 0) Fz.zero (by decide) (by decide)) (Fz.mono (q := a) sa (by decide) (by decide)) W h g)
  have HK21 := Lib.hid (fun vx vy W (h : Fra W vx (a)) (g : Fra W vy (a)) => law2_equal_any vx vy (a) (Fz.mono (q := a) sa (by decide) (by decide)) W h g)
  have HK22 := Lib.hid (fun vx vy W (h : Fra W vx (a)) (g : Fra W vy (1)) => law2_product_any vx vy (a) (1) (a) (by grind) (Fz.mono (q := a) sa (by decide) (by decide)) (Fz.mono (q := 1) Fz.one (by decide) (by decide)) (Fz.mono (q := a) sa (by decide) (by decide)) W h g)
  have HK23 := Lib.hid (fun vx vy W (h : Fra W vx (a + b)) (g : Fra W vy (b)) => law2_less_any vx vy (a + b) (b) (a) (by grind) (Fz.mono (q := (a + b)) (Fz.add sa sb) (by decide) (by decide)) (Fz.mono (q := b) sb (by decide) (by decide)) (Fz.mono (q := a) sa (by decide) (by decide)) W h g)
  have HK24 := Lib.hid (fun vx vy W (h : Fra W vx (0)) (g : Fra W vy (a)) => law2_less_any vx vy (0) (a) (-a) (by grind) (Fz.mono (q := 0) Fz.zero (by decide) (by decide)) (Fz.mono (q := a) sa (by decide) (by decide)) (Fz.mono (q := -a) (Fz.neg sa) (by decide) (by decide)) W h g)
  have HK25 := Lib.hid (fun vx vy W (h : Fra W vx (a)) (g : Fra W vy (-a)) => law2_sum_any vx vy (a) (-a) (0) (by grind) (Fz.mono (q := a) sa (by decide) (by decide)) (Fz.mono (q := -a) (Fz.neg sa) (by decide) (by decide)) (Fz.mono (q := 0) Fz.zero (by decide) (by decide)) W h g)
  have HK26 := Lib.hid (fun vx vy W (h : Fra W vx (0)) (g : Fra W vy (0)) => law2_equal_any vx vy (0) (Fz.mono (q := 0) Fz.zero (by decide) (by decide)) W h g)
  have HK27 := Lib.hid (fun va W (h : Fra W va a) => frNeg_lit va a (-a) rfl (Fz.mono (q := a) sa (by decide) (by decide)) W h)
  have HK28 := Lib.hid (fun vx vy W (h : Fra W vx (-a)) (g : Fra W vy (-a)) => law2_equal_any vx vy (-a) (Fz.mono (q := -a) (Fz.neg sa) (by decide) (by decide)) W h g)
  have HK29 := Lib.hid (fun W (h : Fra W (.agg #[.bool bia, .slice aia kia cia, .bool dia, .slice eia lia mia]) a) (g : Fra W (.agg #[.bool bib, .slice aib 0 cib, .bool dib, .slice eib lib mib]) b) => frDiv_zero a b bia aia kia cia dia eia lia mia bib aib 0 cib dib eib lib mib (Fz.mono (q := a) sa (by decide) (by decide)) (Fz.mono (q := b) sb (by decide) (by decide)) hb0 W h g)
  have hB := Below.refl w.heap.size w
  obtain ⟨al, xia, hN⟩ := mk hB #[.bool bia, .slice aia kia cia, .bool dia, .slice eia lia mia] 26
  replace ia := ia.on al
  replace ib := ib.on al
  replace ic := ic.on al
  replace hB := hN
  clear al hN
  try simp only [World.size_alloc] at xia
  obtain ⟨al, xib, hN⟩ := mk hB #[.bool bib, .slice aib kib cib, .bool dib, .slice eib lib mib] 26
  replace xia := xia.on al
  replace ia := ia.on al
  replace ib := ib.on al
  replace ic := ic.on al
  replace hB := hN
  clear al hN
  try simp only [World.size_alloc] at xib
  obtain ⟨al, xic, hN⟩ := mk hB #[.bool bic, .slice aic kic cic, .bool dic, .slice eic lic mic] 26
  replace xia := xia.on al
  replace xib := xib.on al
  replace ia := ia.on al
  replace ib := ib.on al
  replace ic := ic.on al
  replace hB := hN
  clear al hN
  try simp only [World.size_alloc] at xic
  go_enter Tryz.func7, Tryz.ntmps7
  go_wp2_with fail
  refine (law2_awake_any _).mono ?_
  rintro e w1 ⟨rfl, hb⟩
  replace xia := xia.on hb
  replace xib := xib.on hb
  replace xic := xic.on hb
  replace ia := ia.on hb
  replace ib := ib.on hb
  replace ic := ic.on hb
  have hz1 := hb.size
  try simp at hz1
  replace hB := hB.trans (hb.mono hB.size)
  clear hb
  have pia := xia.all4
  have pib := xib.all4
  have pic := xic.all4
  have ltia := xia.lt
  have ltib := xib.lt
  have ltic := xic.lt
  go_wp2_with fail
  clear ltia
  clear ltib
  clear ltic
  clear pia pib pic
  have hb := ((Below.refl w1.heap.size w1).alloc (Nat.le_refl _) (.cells #[.bool bia, .slice aia kia cia, .bool dia, .slice eia lia mia, .bool bib, .slice aib kib cib, .bool dib, .slice eib lib mib, .bool bic, .slice aic kic cic, .bool dic, .slice eic lic mic] 26))
  have xrow : Bk _ w1.heap.size #[.bool bia, .slice aia kia cia, .bool dia, .slice eia lia mia, .bool bib, .slice aib kib cib, .bool dib, .slice eib lib mib, .bool bic, .slice aic kic cic, .bool dic, .slice eic lic mic] 26 := (Bk.new w1 #[.bool bia, .slice aia kia cia, .bool dia, .slice eia lia mia, .bool bib, .slice aib kib cib, .bool dib, .slice eib lib mib, .bool bic, .slice aic kic cic, .bool dic, .slice eic lic mic] 26)
  replace xia := xia.on hb
  replace xib := xib.on hb
  replace xic := xic.on hb
  replace ia := ia.on hb
  replace ib := ib.on hb
  replace ic := ic.on hb
  replace hB := hB.trans (hb.mono hB.size)
  clear hb
  have rw0 := xrow.cell 0
  have rw1 := xrow.cell 1
  have rw2 := xrow.cell 2
  have rw3 := xrow.cell 3
  have rw4 := xrow.cell 4
  have rw5 := xrow.cell 5
  have rw6 := xrow.cell 6
  have rw7 := xrow.cell 7
  have rw8 := xrow.cell 8
  have rw9 := xrow.cell 9
  have rw10 := xrow.cell 10
  have rw11 := xrow.cell 11
  simp only [List.getElem?_toArray, List.getElem?_cons_zero, List.getElem?_cons_succ] at rw0 rw1 rw2 rw3 rw4 rw5 rw6 rw7 rw8 rw9 rw10 rw11
  refine (usable3_fra w1.heap.size a b c bia aia kia cia dia eia lia mia bib aib kib cib dib eib lib mib bic aic kic cic dic eic lic mic _ rw0 rw1 rw2 rw3 rw4 rw5 rw6 rw7 rw8 rw9 rw10 rw11 ia ib ic sa sb sc).mono ?_
  rintro e w2 ⟨rfl, hb⟩
  clear xrow rw0 rw1 rw2 rw3 rw4 rw5 rw6 rw7 rw8 rw9 rw10 rw11
  replace xia := xia.on hb
  replace xib := xib.on hb
  replace xic := xic.on hb
  replace ia := ia.on hb
  replace ib := ib.on hb
  replace ic := ic.on hb
  replace hB := hB.trans (hb.mono hB.size)
  clear hb
  have pia := xia.all4
  have pib := xib.all4
  have pic := xic.all4
  have ltia := xia.lt
  have ltib := xib.lt
  have ltic := xic.lt
  go_wp2_with fail
  clear ltia
  clear ltib
  clear ltic
  clear pia pib pic
  refine (HK0.out _).mono ?_
  rintro e w3 ⟨⟨vgz, rfl, gz⟩, hb⟩
  replace xia := xia.on hb
  replace xib := xib.on hb
  replace xic := xic.on hb
  replace ia := ia.on hb
  replace ib := ib.on hb
  replace ic := ic.on hb
  have hz3 := hb.size
  try simp at hz3
  replace hB := hB.trans (hb.mono hB.size)
  clear hb
  go_wp2_with fail
  refine (HK1.out _).mono ?_
  rintro e w4 ⟨⟨vgo, rfl, go⟩, hb⟩
  replace xia := xia.on hb
  replace xib := xib.on hb
  replace xic := xic.on hb
  replace ia := ia.on hb
  replace ib := ib.on hb
  replace ic := ic.on hb
  replace gz := gz.on hb
  have hz4 := hb.size
  try simp at hz4
  replace hB := hB.trans (hb.mono hB.size)
  clear hb
  obtain ⟨bz, az, kz, cz, dz, ez, lz, mz, rfl⟩ := gz.opened
  obtain ⟨bu, au, ku, cu, du, eu, lu, mu, rfl⟩ := go.opened
  go_wp2_with fail
  have xq := Bk.new (w4.alloc (.cells #[.bool bz, .slice az kz cz, .bool dz, .slice ez lz mz] 26)) #[.bool bu, .slice au ku cu, .bool du, .slice eu lu mu] 26
  rw [World.size_alloc] at xq
  have hb := (((Below.refl w4.heap.size w4).alloc (Nat.le_refl _) (.cells #[.bool bz, .slice az kz cz, .bool dz, .slice ez lz mz] 26)).alloc (by simp) (.cells #[.bool bu, .slice au ku cu, .bool du, .slice eu lu mu] 26))
  have xzero : Bk _ (w4.heap.size) #[.bool bz, .slice az kz cz, .bool dz, .slice ez lz mz] 26 := (Bk.new w4 #[.bool bz, .slice az kz cz, .bool dz, .slice ez lz mz] 26).alloc (.cells #[.bool bu, .slice au ku cu, .bool du, .slice eu lu mu] 26)
  have xone : Bk _ (w4.heap.size + 1) #[.bool bu, .slice au ku cu, .bool du, .slice eu lu mu] 26 := xq
  clear xq
  replace xia := xia.on hb
  replace xib := xib.on hb
  replace xic := xic.on hb
  replace ia := ia.on hb
  replace ib := ib.on hb
  replace ic := ic.on hb
  replace gz := gz.on hb
  replace go := go.on hb
  replace hB := hB.trans (hb.mono hB.size)
  clear hb
  obtain ⟨wa, hwa⟩ : ∃ W, W = ((w4.alloc (.cells #[.bool bz, .slice az kz cz, .bool dz, .slice ez lz mz] 26)).alloc (.cells #[.bool bu, .slice au ku cu, .bool du, .slice eu lu mu] 26)) := ⟨_, rfl⟩
  rw [← hwa] at hB xia xib xic xzero xone ia ib ic gz go ⊢
  clear hwa
  have qia := xia.lt
  have qib := xib.lt
  have qic := xic.lt
  obtain ⟨gia0, gia1, gia2, gia3⟩ := xia.cells4
  obtain ⟨gib0, gib1, gib2, gib3⟩ := xib.cells4
  obtain ⟨gic0, gic1, gic2, gic3⟩ := xic.cells4
  refine wp_region_noPanic ?_
  refine wp_region_held_drew (S := (fun w' => (w'.cell? ⟨w.heap.size, 0, none⟩ = some (.bool bia) ∧ w'.cell? ⟨w.heap.size, 1, none⟩ = some (.slice aia kia cia) ∧ w'.cell? ⟨w.heap.size, 2, none⟩ = some (.bool dia) ∧ w'.cell? ⟨w.heap.size, 3, none⟩ = some (.slice eia lia mia)) ∧ (w'.cell? ⟨w.heap.size + 1, 0, none⟩ = some (.bool bib) ∧ w'.cell? ⟨w.heap.size + 1, 1, none⟩ = some (.slice aib kib cib) ∧ w'.cell? ⟨w.heap.size + 1, 2, none⟩ = some (.bool dib) ∧ w'.cell? ⟨w.heap.size + 1, 3, none⟩ = some (.slice eib lib mib)) ∧ w'.cell? ⟨w.heap.size + 1 + 1, 0, none⟩ = some (.bool bic) ∧ w'.cell? ⟨w.heap.size + 1 + 1, 1, none⟩ = some (.slice aic kic cic) ∧ w'.cell? ⟨w.heap.size + 1 + 1, 2, none⟩ = some (.bool dic) ∧ w'.cell? ⟨w.heap.size + 1 + 1, 3, none⟩ = some (.slice eic lic mic))) (by kernel_rfl) ⟨⟨gia0, gia1, gia2, gia3⟩, ⟨gib0, gib1, gib2, gib3⟩, ⟨gic0, gic1, gic2, gic3⟩⟩ (fun hR0 => ?_)
  change wpAnyH _ _ _ _ _ 46 #[false, false, false, false, false, false, false, false, false, false, false, false, false, false, false, false, false, false, false, false, false, false, false, false, false, false, false, false, false, false, false, false, false, false, false, false, false, false, false, false, false, false, false, false, false, false] _ _
  clear gia0 gia1 gia2 gia3 gib0 gib1 gib2 gib3 gic0 gic1 gic2 gic3
  refine tk (i := 0) (v := ?_) rfl (by kernel_rfl) (fun _ _ _ h => h) (by rfl) ?_ (by assumption) ?_
  rotate_left 1
  · (intro w hSw; (try dsimp only at hSw); go_simp <;> (with_reducible rfl))
  (try simp only [Act.put, List.setIfInBounds_toArray, List.set])
  refine tk (i := 1) (v := ?_) rfl (by kernel_rfl) (fun _ _ _ h => h) (by rfl) ?_ (by assumption) ?_
  rotate_left 1
  · (intro w hSw; (try dsimp only at hSw); go_simp <;> (with_reducible rfl))
  (try simp only [Act.put, List.setIfInBounds_toArray, List.set])
  refine tk (i := 3) (v := ?_) rfl (by kernel_rfl) (fun _ _ _ h => h) (by rfl) ?_ (by assumption) ?_
  rotate_left 1
  · (intro w hSw; (try dsimp only at hSw); go_simp <;> (with_reducible rfl))
  (try simp only [Act.put, List.setIfInBounds_toArray, List.set])
  refine tk (i := 4) (v := ?_) rfl (by kernel_rfl) (fun _ _ _ h => h) (by rfl) ?_ (by assumption) ?_
  rotate_left 1
  · (intro w hSw; (try dsimp only at hSw); go_simp <;> (with_reducible rfl))
  (try simp only [Act.put, List.setIfInBounds_toArray, List.set])
  refine rd1 (i := 2) (by kernel_rfl) rfl (fun K hK => ?_)
  go_simp
  go_at_call 44; have hBd := hB.drew; refine (HK2.out _ _ _ (by exact ia) (by exact ib)).mono ?_; rintro e w5 ⟨⟨vg1, rfl, g1⟩, hb⟩; replace hb := (Below.refl wa.heap.size wa).drew.trans hb; replace xia := xia.on hb; replace xib := xib.on hb; replace xic := xic.on hb; replace xzero := xzero.on hb; replace xone := xone.on hb; replace ia := ia.on hb; replace ib := ib.on hb; replace ic := ic.on hb; replace gz := gz.on hb; replace go := go.on hb; replace hB := hB.trans (hb.mono hB.size); have hz5 := hb.size
  (try go_wp2_with fail)
  refine hK.out _ _ (⟨keep4 hb qia hR0.1, keep4 hb qib hR0.2.1, keep4 hb qic hR0.2.2⟩) (fun hR1 => ?_)
  clear hK K hR0
  (first | ((fail_if_success (unfold Act.put)); (try simp only [List.setIfInBounds_toArray, List.set])) | (try simp only [Act.put, List.setIfInBounds_toArray, List.set]))
  replace qia := Nat.lt_of_lt_of_le qia hz5
  replace qib := Nat.lt_of_lt_of_le qib hz5
  replace qic := Nat.lt_of_lt_of_le qic hz5
  clear hb hBd
  refine rd1 (i := 5) (by kernel_rfl) rfl (fun K hK => ?_)
  go_simp
  go_at_call 44; have hBd := hB; refine (HK3.out _ _ _ ib ia).mono ?_; rintro e w6 ⟨⟨vg2, rfl, g2⟩, hb⟩; replace xia := xia.on hb; replace xib := xib.on hb; replace xic := xic.on hb; replace xzero := xzero.on hb; replace xone := xone.on hb; replace ia := ia.on hb; replace ib := ib.on hb; replace ic := ic.on hb; replace gz := gz.on hb; replace go := go.on hb; replace g1 := g1.on hb; replace hB := hB.trans (hb.mono hB.size); have hz6 := hb.size
  (try go_wp2_with fail)
  refine hK.out _ _ (⟨keep4 hb qia hR1.1, keep4 hb qib hR1.2.1, keep4 hb qic hR1.2.2⟩) (fun hR2 => ?_)
  clear hK K hR1
  (first | ((fail_if_success (unfold Act.put)); (try simp only [List.setIfInBounds_toArray, List.set])) | (try simp only [Act.put, List.setIfInBounds_toArray, List.set]))
  replace qia := Nat.lt_of_lt_of_le qia hz6
  replace qib := Nat.lt_of_lt_of_le qib hz6
  replace qic := Nat.lt_of_lt_of_le qic hz6
  clear hb hBd
  refine rd1 (i := 6) (by kernel_rfl) rfl (fun K hK => ?_)
  go_simp
  go_at_call 43; have hBd := hB; refine (HK4.out _ _ _ g1 g2).mono ?_; rintro e w7 ⟨rfl, hb⟩; replace xia := xia.on hb; replace xib := xib.on hb; replace xic := xic.on hb; replace xzero := xzero.on hb; replace xone := xone.on hb; replace ia := ia.on hb; replace ib := ib.on hb; replace ic := ic.on hb; replace gz := gz.on hb; replace go := go.on hb; replace g1 := g1.on hb; replace g2 := g2.on hb; replace hB := hB.trans (hb.mono hB.size); have hz7 := hb.size
  (try go_wp2_with fail)
  refine hK.out _ _ (⟨keep4 hb qia hR2.1, keep4 hb qib hR2.2.1, keep4 hb qic hR2.2.2⟩) (fun hR3 => ?_)
  clear hK K hR2
  (first | ((fail_if_success (unfold Act.put)); (try simp only [List.setIfInBounds_toArray, List.set])) | (try simp only [Act.put, List.setIfInBounds_toArray, List.set]))
  replace qia := Nat.lt_of_lt_of_le qia hz7
  replace qib := Nat.lt_of_lt_of_le qib hz7
  replace qic := Nat.lt_of_lt_of_le qic hz7
  clear hb hBd
  refine tk (i := 7) (v := ?_) rfl (by kernel_rfl) (fun _ _ _ h => h) (by rfl) ?_ (by assumption) ?_
  rotate_left 1
  · (intro w hSw; (try dsimp only at hSw); go_simp <;> (with_reducible rfl))
  (try simp only [Act.put, List.setIfInBounds_toArray, List.set])
  refine tk (i := 8) (v := ?_) rfl (by kernel_rfl) (fun _ _ _ h => h) (by rfl) ?_ (by assumption) ?_
  rotate_left 1
  · (intro w hSw; (try dsimp only at hSw); go_simp <;> (with_reducible rfl))
  (try simp only [Act.put, List.setIfInBounds_toArray, List.set])
  refine tk (i := 9) (v := ?_) rfl (by kernel_rfl) (fun _ _ _ h => h) (by rfl) ?_ (by assumption) ?_
  rotate_left 1
  · (intro w hSw; (try dsimp only at hSw); go_simp <;> (with_reducible rfl))
  (try simp only [Act.put, List.setIfInBounds_toArray, List.set])
  refine tk (i := 10) (v := ?_) rfl (by kernel_rfl) (fun _ _ _ h => h) (by rfl) ?_ (by assumption) ?_
  rotate_left 1
  · (intro w hSw; (try dsimp only at hSw); go_simp <;> (with_reducible rfl))
  (try simp only [Act.put, List.setIfInBounds_toArray, List.set])
  refine tk (i := 12) (v := ?_) rfl (by kernel_rfl) (fun _ _ _ h => h) (by rfl) ?_ (by assumption) ?_
  rotate_left 1
  · (intro w hSw; (try dsimp only at hSw); go_simp <;> (with_reducible rfl))
  (try simp only [Act.put, List.setIfInBounds_toArray, List.set])
  refine tk (i := 13) (v := ?_) rfl (by kernel_rfl) (fun _ _ _ h => h) (by rfl) ?_ (by assumption) ?_
  rotate_left 1
  · (intro w hSw; (try dsimp only at hSw); go_simp <;> (with_reducible rfl))
  (try simp only [Act.put, List.setIfInBounds_toArray, List.set])
  refine rd1 (i := 11) (by kernel_rfl) rfl (fun K hK => ?_)
  go_simp
  go_at_call 45; have hBd := hB; refine (HK5.out _ _ _ ia ib).mono ?_; rintro e w8 ⟨⟨vg3, rfl, g3⟩, hb⟩; replace xia := xia.on hb; replace xib := xib.on hb; replace xic := xic.on hb; replace xzero := xzero.on hb; replace xone := xone.on hb; replace ia := ia.on hb; replace ib := ib.on hb; replace ic := ic.on hb; replace gz := gz.on hb; replace go := go.on hb; replace g1 := g1.on hb; replace g2 := g2.on hb; replace hB := hB.trans (hb.mono hB.size); have hz8 := hb.size
  (try go_wp2_with fail)
  refine hK.out _ _ (⟨keep4 hb qia hR3.1, keep4 hb qib hR3.2.1, keep4 hb qic hR3.2.2⟩) (fun hR4 => ?_)
  clear hK K hR3
  (first | ((fail_if_success (unfold Act.put)); (try simp only [List.setIfInBounds_toArray, List.set])) | (try simp only [Act.put, List.setIfInBounds_toArray, List.set]))
  replace qia := Nat.lt_of_lt_of_le qia hz8
  replace qib := Nat.lt_of_lt_of_le qib hz8
  replace qic := Nat.lt_of_lt_of_le qic hz8
  clear hb hBd
  refine rd1 (i := 14) (by kernel_rfl) rfl (fun K hK => ?_)
  go_simp
  go_at_call 45; have hBd := hB; refine (HK6.out _ _ _ ib ia).mono ?_; rintro e w9 ⟨⟨vg4, rfl, g4⟩, hb⟩; replace xia := xia.on hb; replace xib := xib.on hb; replace xic := xic.on hb; replace xzero := xzero.on hb; replace xone := xone.on hb; replace ia := ia.on hb; replace ib := ib.on hb; replace ic := ic.on hb; replace gz := gz.on hb; replace go := go.on hb; replace g1 := g1.on hb; replace g2 := g2.on hb; replace g3 := g3.on hb; replace hB := hB.trans (hb.mono hB.size); have hz9 := hb.size
  (try go_wp2_with fail)
  refine hK.out _ _ (⟨keep4 hb qia hR4.1, keep4 hb qib hR4.2.1, keep4 hb qic hR4.2.2⟩) (fun hR5 => ?_)
  clear hK K hR4
  (first | ((fail_if_success (unfold Act.put)); (try simp only [List.setIfInBounds_toArray, List.set])) | (try simp only [Act.put, List.setIfInBounds_toArray, List.set]))
  replace qia := Nat.lt_of_lt_of_le qia hz9
  replace qib := Nat.lt_of_lt_of_le qib hz9
  replace qic := Nat.lt_of_lt_of_le qic hz9
  clear hb hBd
  refine rd1 (i := 15) (by kernel_rfl) rfl (fun K hK => ?_)
  go_simp
  go_at_call 43; have hBd := hB; refine (HK7.out _ _ _ g3 g4).mono ?_; rintro e w10 ⟨rfl, hb⟩; replace xia := xia.on hb; replace xib := xib.on hb; replace xic := xic.on hb; replace xzero := xzero.on hb; replace xone := xone.on hb; replace ia := ia.on hb; replace ib := ib.on hb; replace ic := ic.on hb; replace gz := gz.on hb; replace go := go.on hb; replace g1 := g1.on hb; replace g2 := g2.on hb; replace g3 := g3.on hb; replace g4 := g4.on hb; replace hB := hB.trans (hb.mono hB.size); have hz10 := hb.size
  (try go_wp2_with fail)
  refine hK.out _ _ (⟨keep4 hb qia hR5.1, keep4 hb qib hR5.2.1, keep4 hb qic hR5.2.2⟩) (fun hR6 => ?_)
  clear hK K hR5
  (first | ((fail_if_success (unfold Act.put)); (try simp only [List.setIfInBounds_toArray, List.set])) | (try simp only [Act.put, List.setIfInBounds_toArray, List.set]))
  replace qia := Nat.lt_of_lt_of_le qia hz10
  replace qib := Nat.lt_of_lt_of_le qib hz10
  replace qic := Nat.lt_of_lt_of_le qic hz10
  clear hb hBd
  refine tk (i := 16) (v := ?_) rfl (by kernel_rfl) (fun _ _ _ h => h) (by rfl) ?_ (by assumption) ?_
  rotate_left 1
  · (intro w hSw; (try dsimp only at hSw); go_simp <;> (with_reducible rfl))
  (try simp only [Act.put, List.setIfInBounds_toArray, List.set])
  refine tk (i := 17) (v := ?_) rfl (by kernel_rfl) (fun _ _ _ h => h) (by rfl) ?_ (by assumption) ?_
  rotate_left 1
  · (intro w hSw; (try dsimp only at hSw); go_simp <;> (with_reducible rfl))
  (try simp only [Act.put, List.setIfInBounds_toArray, List.set])
  refine tk (i := 18) (v := ?_) rfl (by kernel_rfl) (fun _ _ _ h => h) (by rfl) ?_ (by assumption) ?_
  rotate_left 1
  · (intro w hSw; (try dsimp only at hSw); go_simp <;> (with_reducible rfl))
  (try simp only [Act.put, List.setIfInBounds_toArray, List.set])
  refine tk (i := 19) (v := ?_) rfl (by kernel_rfl) (fun _ _ _ h => h) (by rfl) ?_ (by assumption) ?_
  rotate_left 1
  · (intro w hSw; (try dsimp only at hSw); go_simp <;> (with_reducible rfl))
  (try simp only [Act.put, List.setIfInBounds_toArray, List.set])
  refine tk (i := 20) (v := ?_) rfl (by kernel_rfl) (fun _ _ _ h => h) (by rfl) ?_ (by assumption) ?_
  rotate_left 1
  · (intro w hSw; (try dsimp only at hSw); go_simp <;> (with_reducible rfl))
  (try simp only [Act.put, List.setIfInBounds_toArray, List.set])
  refine tk (i := 22) (v := ?_) rfl (by kernel_rfl) (fun _ _ _ h => h) (by rfl) ?_ (by assumption) ?_
  rotate_left 1
  · (intro w hSw; (try dsimp only at hSw); go_simp <;> (with_reducible rfl))
  (try simp only [Act.put, List.setIfInBounds_toArray, List.set])
  refine tk (i := 24) (v := ?_) rfl (by kernel_rfl) (fun _ _ _ h => h) (by rfl) ?_ (by assumption) ?_
  rotate_left 1
  · (intro w hSw; (try dsimp only at hSw); go_simp <;> (with_reducible rfl))
  (try simp only [Act.put, List.setIfInBounds_toArray, List.set])
  refine tk (i := 25) (v := ?_) rfl (by kernel_rfl) (fun _ _ _ h => h) (by rfl) ?_ (by assumption) ?_
  rotate_left 1
  · (intro w hSw; (try dsimp only at hSw); go_simp <;> (with_reducible rfl))
  (try simp only [Act.put, List.setIfInBounds_toArray, List.set])
  refine tk (i := 26) (v := ?_) rfl (by kernel_rfl) (fun _ _ _ h => h) (by rfl) ?_ (by assumption) ?_
  rotate_left 1
  · (intro w hSw; (try dsimp only at hSw); go_simp <;> (with_reducible rfl))
  (try simp only [Act.put, List.setIfInBounds_toArray, List.set])
  refine rd1 (i := 21) (by kernel_rfl) rfl (fun K hK => ?_)
  go_simp
  go_at_call 44; have hBd := hB; refine (HK2.out _ _ _ ia ib).mono ?_; rintro e w11 ⟨⟨vg5, rfl, g5⟩, hb⟩; replace xia := xia.on hb; replace xib := xib.on hb; replace xic := xic.on hb; replace xzero := xzero.on hb; replace xone := xone.on hb; replace ia := ia.on hb; replace ib := ib.on hb; replace ic := ic.on hb; replace gz := gz.on hb; replace go := go.on hb; replace g1 := g1.on hb; replace g2 := g2.on hb; replace g3 := g3.on hb; replace g4 := g4.on hb; replace hB := hB.trans (hb.mono hB.size); have hz11 := hb.size
  (try go_wp2_with fail)
  refine hK.out _ _ (⟨keep4 hb qia hR6.1, keep4 hb qib hR6.2.1, keep4 hb qic hR6.2.2⟩) (fun hR7 => ?_)
  clear hK K hR6
  (first | ((fail_if_success (unfold Act.put)); (try simp only [List.setIfInBounds_toArray, List.set])) | (try simp only [Act.put, List.setIfInBounds_toArray, List.set]))
  replace qia := Nat.lt_of_lt_of_le qia hz11
  replace qib := Nat.lt_of_lt_of_le qib hz11
  replace qic := Nat.lt_of_lt_of_le qic hz11
  clear hb hBd
  refine rd1 (i := 23) (by kernel_rfl) rfl (fun K hK => ?_)
  go_simp
  go_at_call 44; have hBd := hB; refine (HK8.out _ _ _ g5 ic).mono ?_; rintro e w12 ⟨⟨vg6, rfl, g6⟩, hb⟩; replace xia := xia.on hb; replace xib := xib.on hb; replace xic := xic.on hb; replace xzero := xzero.on hb; replace xone := xone.on hb; replace ia := ia.on hb; replace ib := ib.on hb; replace ic := ic.on hb; replace gz := gz.on hb; replace go := go.on hb; replace g1 := g1.on hb; replace g2 := g2.on hb; replace g3 := g3.on hb; replace g4 := g4.on hb; replace g5 := g5.on hb; replace hB := hB.trans (hb.mono hB.size); have hz12 := hb.size
  (try go_wp2_with fail)
  refine hK.out _ _ (⟨keep4 hb qia hR7.1, keep4 hb qib hR7.2.1, keep4 hb qic hR7.2.2⟩) (fun hR8 => ?_)
  clear hK K hR7
  (first | ((fail_if_success (unfold Act.put)); (try simp only [List.setIfInBounds_toArray, List.set])) | (try simp only [Act.put, List.setIfInBounds_toArray, List.set]))
  replace qia := Nat.lt_of_lt_of_le qia hz12
  replace qib := Nat.lt_of_lt_of_le qib hz12
  replace qic := Nat.lt_of_lt_of_le qic hz12
  clear hb hBd
  refine rd1 (i := 27) (by kernel_rfl) rfl (fun K hK => ?_)
  go_simp
  go_at_call 44; have hBd := hB; refine (HK9.out _ _ _ ib ic).mono ?_; rintro e w13 ⟨⟨vg7, rfl, g7⟩, hb⟩; replace xia := xia.on hb; replace xib := xib.on hb; replace xic := xic.on hb; replace xzero := xzero.on hb; replace xone := xone.on hb; replace ia := ia.on hb; replace ib := ib.on hb; replace ic := ic.on hb; replace gz := gz.on hb; replace go := go.on hb; replace g1 := g1.on hb; replace g2 := g2.on hb; replace g3 := g3.on hb; replace g4 := g4.on hb; replace g5 := g5.on hb; replace g6 := g6.on hb; replace hB := hB.trans (hb.mono hB.size); have hz13 := hb.size
  (try go_wp2_with fail)
  refine hK.out _ _ (⟨keep4 hb qia hR8.1, keep4 hb qib hR8.2.1, keep4 hb qic hR8.2.2⟩) (fun hR9 => ?_)
  clear hK K hR8
  (first | ((fail_if_success (unfold Act.put)); (try simp only [List.setIfInBounds_toArray, List.set])) | (try simp only [Act.put, List.setIfInBounds_toArray, List.set]))
  replace qia := Nat.lt_of_lt_of_le qia hz13
  replace qib := Nat.lt_of_lt_of_le qib hz13
  replace qic := Nat.lt_of_lt_of_le qic hz13
  clear hb hBd
  refine rd1 (i := 28) (by kernel_rfl) rfl (fun K hK => ?_)
  go_simp
  go_at_call 44; have hBd := hB; refine (HK10.out _ _ _ ia g7).mono ?_; rintro e w14 ⟨⟨vg8, rfl, g8⟩, hb⟩; replace xia := xia.on hb; replace xib := xib.on hb; replace xic := xic.on hb; replace xzero := xzero.on hb; replace xone := xone.on hb; replace ia := ia.on hb; replace ib := ib.on hb; replace ic := ic.on hb; replace gz := gz.on hb; replace go := go.on hb; replace g1 := g1.on hb; replace g2 := g2.on hb; replace g3 := g3.on hb; replace g4 := g4.on hb; replace g5 := g5.on hb; replace g6 := g6.on hb; replace g7 := g7.on hb; replace hB := hB.trans (hb.mono hB.size); have hz14 := hb.size
  (try go_wp2_with fail)
  refine hK.out _ _ (⟨keep4 hb qia hR9.1, keep4 hb qib hR9.2.1, keep4 hb qic hR9.2.2⟩) (fun hR10 => ?_)
  clear hK K hR9
  (first | ((fail_if_success (unfold Act.put)); (try simp only [List.setIfInBounds_toArray, List.set])) | (try simp only [Act.put, List.setIfInBounds_toArray, List.set]))
  replace qia := Nat.lt_of_lt_of_le qia hz14
  replace qib := Nat.lt_of_lt_of_le qib hz14
  replace qic := Nat.lt_of_lt_of_le qic hz14
  clear hb hBd
  refine rd1 (i := 29) (by kernel_rfl) rfl (fun K hK => ?_)
  go_simp
  go_at_call 43; have hBd := hB; refine (HK11.out _ _ _ g6 g8).mono ?_; rintro e w15 ⟨rfl, hb⟩; replace xia := xia.on hb; replace xib := xib.on hb; replace xic := xic.on hb; replace xzero := xzero.on hb; replace xone := xone.on hb; replace ia := ia.on hb; replace ib := ib.on hb; replace ic := ic.on hb; replace gz := gz.on hb; replace go := go.on hb; replace g1 := g1.on hb; replace g2 := g2.on hb; replace g3 := g3.on hb; replace g4 := g4.on hb; replace g5 := g5.on hb; replace g6 := g6.on hb; replace g7 := g7.on hb; replace g8 := g8.on hb; replace hB := hB.trans (hb.mono hB.size); have hz15 := hb.size
  (try go_wp2_with fail)
  refine hK.out _ _ (⟨keep4 hb qia hR10.1, keep4 hb qib hR10.2.1, keep4 hb qic hR10.2.2⟩) (fun hR11 => ?_)
  clear hK K hR10
  (first | ((fail_if_success (unfold Act.put)); (try simp only [List.setIfInBounds_toArray, List.set])) | (try simp only [Act.put, List.setIfInBounds_toArray, List.set]))
  replace qia := Nat.lt_of_lt_of_le qia hz15
  replace qib := Nat.lt_of_lt_of_le qib hz15
  replace qic := Nat.lt_of_lt_of_le qic hz15
  clear hb hBd
  refine tk (i := 30) (v := ?_) rfl (by kernel_rfl) (fun _ _ _ h => h) (by rfl) ?_ (by assumption) ?_
  rotate_left 1
  · (intro w hSw; (try dsimp only at hSw); go_simp <;> (with_reducible rfl))
  (try simp only [Act.put, List.setIfInBounds_toArray, List.set])
  refine tk (i := 31) (v := ?_) rfl (by kernel_rfl) (fun _ _ _ h => h) (by rfl) ?_ (by assumption) ?_
  rotate_left 1
  · (intro w hSw; (try dsimp only at hSw); go_simp <;> (with_reducible rfl))
  (try simp only [Act.put, List.setIfInBounds_toArray, List.set])
  refine tk (i := 32) (v := ?_) rfl (by kernel_rfl) (fun _ _ _ h => h) (by rfl) ?_ (by assumption) ?_
  rotate_left 1
  · (intro w hSw; (try dsimp only at hSw); go_simp <;> (with_reducible rfl))
  (try simp only [Act.put, List.setIfInBounds_toArray, List.set])
  refine tk (i := 33) (v := ?_) rfl (by kernel_rfl) (fun _ _ _ h => h) (by rfl) ?_ (by assumption) ?_
  rotate_left 1
  · (intro w hSw; (try dsimp only at hSw); go_simp <;> (with_reducible rfl))
  (try simp only [Act.put, List.setIfInBounds_toArray, List.set])
  refine tk (i := 34) (v := ?_) rfl (by kernel_rfl) (fun _ _ _ h => h) (by rfl) ?_ (by assumption) ?_
  rotate_left 1
  · (intro w hSw; (try dsimp only at hSw); go_simp <;> (with_reducible rfl))
  (try simp only [Act.put, List.setIfInBounds_toArray, List.set])
  refine tk (i := 36) (v := ?_) rfl (by kernel_rfl) (fun _ _ _ h => h) (by rfl) ?_ (by assumption) ?_
  rotate_left 1
  · (intro w hSw; (try dsimp only at hSw); go_simp <;> (with_reducible rfl))
  (try simp only [Act.put, List.setIfInBounds_toArray, List.set])
  refine tk (i := 38) (v := ?_) rfl (by kernel_rfl) (fun _ _ _ h => h) (by rfl) ?_ (by assumption) ?_
  rotate_left 1
  · (intro w hSw; (try dsimp only at hSw); go_simp <;> (with_reducible rfl))
  (try simp only [Act.put, List.setIfInBounds_toArray, List.set])
  refine tk (i := 39) (v := ?_) rfl (by kernel_rfl) (fun _ _ _ h => h) (by rfl) ?_ (by assumption) ?_
  rotate_left 1
  · (intro w hSw; (try dsimp only at hSw); go_simp <;> (with_reducible rfl))
  (try simp only [Act.put, List.setIfInBounds_toArray, List.set])
  refine tk (i := 40) (v := ?_) rfl (by kernel_rfl) (fun _ _ _ h => h) (by rfl) ?_ (by assumption) ?_
  rotate_left 1
  · (intro w hSw; (try dsimp only at hSw); go_simp <;> (with_reducible rfl))
  (try simp only [Act.put, List.setIfInBounds_toArray, List.set])
  refine rd1 (i := 35) (by kernel_rfl) rfl (fun K hK => ?_)
  go_simp
  go_at_call 45; have hBd := hB; refine (HK5.out _ _ _ ia ib).mono ?_; rintro e w16 ⟨⟨vh1, rfl, h1⟩, hb⟩; replace xia := xia.on hb; replace xib := xib.on hb; replace xic := xic.on hb; replace xzero := xzero.on hb; replace xone := xone.on hb; replace ia := ia.on hb; replace ib := ib.on hb; replace ic := ic.on hb; replace gz := gz.on hb; replace go := go.on hb; replace g1 := g1.on hb; replace g2 := g2.on hb; replace g3 := g3.on hb; replace g4 := g4.on hb; replace g5 := g5.on hb; replace g6 := g6.on hb; replace g7 := g7.on hb; replace g8 := g8.on hb; replace hB := hB.trans (hb.mono hB.size); have hz16 := hb.size
  (try go_wp2_with fail)
  refine hK.out _ _ (⟨keep4 hb qia hR11.1, keep4 hb qib hR11.2.1, keep4 hb qic hR11.2.2⟩) (fun hR12 => ?_)
  clear hK K hR11
  (first | ((fail_if_success (unfold Act.put)); (try simp only [List.setIfInBounds_toArray, List.set])) | (try simp only [Act.put, List.setIfInBounds_toArray, List.set]))
  replace qia := Nat.lt_of_lt_of_le qia hz16
  replace qib := Nat.lt_of_lt_of_le qib hz16
  replace qic := Nat.lt_of_lt_of_le qic hz16
  clear hb hBd
  refine rd1 (i := 37) (by kernel_rfl) rfl (fun K hK => ?_)
  go_simp
  go_at_call 45; have hBd := hB; refine (HK12.out _ _ _ h1 ic).mono ?_; rintro e w17 ⟨⟨vh2, rfl, h2⟩, hb⟩; replace xia := xia.on hb; replace xib := xib.on hb; replace xic := xic.on hb; replace xzero := xzero.on hb; replace xone := xone.on hb; replace ia := ia.on hb; replace ib := ib.on hb; replace ic := ic.on hb; replace gz := gz.on hb; replace go := go.on hb; replace g1 := g1.on hb; replace g2 := g2.on hb; replace g3 := g3.on hb; replace g4 := g4.on hb; replace g5 := g5.on hb; replace g6 := g6.on hb; replace g7 := g7.on hb; replace g8 := g8.on hb; replace h1 := h1.on hb; replace hB := hB.trans (hb.mono hB.size); have hz17 := hb.size
  (try go_wp2_with fail)
  refine hK.out _ _ (⟨keep4 hb qia hR12.1, keep4 hb qib hR12.2.1, keep4 hb qic hR12.2.2⟩) (fun hR13 => ?_)
  clear hK K hR12
  (first | ((fail_if_success (unfold Act.put)); (try simp only [List.setIfInBounds_toArray, List.set])) | (try simp only [Act.put, List.setIfInBounds_toArray, List.set]))
  replace qia := Nat.lt_of_lt_of_le qia hz17
  replace qib := Nat.lt_of_lt_of_le qib hz17
  replace qic := Nat.lt_of_lt_of_le qic hz17
  clear hb hBd
  refine rd1 (i := 41) (by kernel_rfl) rfl (fun K hK => ?_)
  go_simp
  go_at_call 45; have hBd := hB; refine (HK13.out _ _ _ ib ic).mono ?_; rintro e w18 ⟨⟨vh3, rfl, h3⟩, hb⟩; replace xia := xia.on hb; replace xib := xib.on hb; replace xic := xic.on hb; replace xzero := xzero.on hb; replace xone := xone.on hb; replace ia := ia.on hb; replace ib := ib.on hb; replace ic := ic.on hb; replace gz := gz.on hb; replace go := go.on hb; replace g1 := g1.on hb; replace g2 := g2.on hb; replace g3 := g3.on hb; replace g4 := g4.on hb; replace g5 := g5.on hb; replace g6 := g6.on hb; replace g7 := g7.on hb; replace g8 := g8.on hb; replace h1 := h1.on hb; replace h2 := h2.on hb; replace hB := hB.trans (hb.mono hB.size); have hz18 := hb.size
  (try go_wp2_with fail)
  refine hK.out _ _ (⟨keep4 hb qia hR13.1, keep4 hb qib hR13.2.1, keep4 hb qic hR13.2.2⟩) (fun hR14 => ?_)
  clear hK K hR13
  (first | ((fail_if_success (unfold Act.put)); (try simp only [List.setIfInBounds_toArray, List.set])) | (try simp only [Act.put, List.setIfInBounds_toArray, List.set]))
  replace qia := Nat.lt_of_lt_of_le qia hz18
  replace qib := Nat.lt_of_lt_of_le qib hz18
  replace qic := Nat.lt_of_lt_of_le qic hz18
  clear hb hBd
  refine rd1 (i := 42) (by kernel_rfl) rfl (fun K hK => ?_)
  go_simp
  go_at_call 45; have hBd := hB; refine (HK14.out _ _ _ ia h3).mono ?_; rintro e w19 ⟨⟨vh4, rfl, h4⟩, hb⟩; replace xia := xia.on hb; replace xib := xib.on hb; replace xic := xic.on hb; replace xzero := xzero.on hb; replace xone := xone.on hb; replace ia := ia.on hb; replace ib := ib.on hb; replace ic := ic.on hb; replace gz := gz.on hb; replace go := go.on hb; replace g1 := g1.on hb; replace g2 := g2.on hb; replace g3 := g3.on hb; replace g4 := g4.on hb; replace g5 := g5.on hb; replace g6 := g6.on hb; replace g7 := g7.on hb; replace g8 := g8.on hb; replace h1 := h1.on hb; replace h2 := h2.on hb; replace h3 := h3.on hb; replace hB := hB.trans (hb.mono hB.size); have hz19 := hb.size
  (try go_wp2_with fail)
  refine hK.out _ _ (⟨keep4 hb qia hR14.1, keep4 hb qib hR14.2.1, keep4 hb qic hR14.2.2⟩) (fun hR15 => ?_)
  clear hK K hR14
  (first | ((fail_if_success (unfold Act.put)); (try simp only [List.setIfInBounds_toArray, List.set])) | (try simp only [Act.put, List.setIfInBounds_toArray, List.set]))
  replace qia := Nat.lt_of_lt_of_le qia hz19
  replace qib := Nat.lt_of_lt_of_le qib hz19
  replace qic := Nat.lt_of_lt_of_le qic hz19
  clear hb hBd
  refine rd1 (i := 43) (by kernel_rfl) rfl (fun K hK => ?_)
  go_simp
  go_at_call 43; have hBd := hB; refine (HK15.out _ _ _ h2 h4).mono ?_; rintro e w20 ⟨rfl, hb⟩; replace xia := xia.on hb; replace xib := xib.on hb; replace xic := xic.on hb; replace xzero := xzero.on hb; replace xone := xone.on hb; replace ia := ia.on hb; replace ib := ib.on hb; replace ic := ic.on hb; replace gz := gz.on hb; replace go := go.on hb; replace g1 := g1.on hb; replace g2 := g2.on hb; replace g3 := g3.on hb; replace g4 := g4.on hb; replace g5 := g5.on hb; replace g6 := g6.on hb; replace g7 := g7.on hb; replace g8 := g8.on hb; replace h1 := h1.on hb; replace h2 := h2.on hb; replace h3 := h3.on hb; replace h4 := h4.on hb; replace hB := hB.trans (hb.mono hB.size); have hz20 := hb.size
  (try go_wp2_with fail)
  refine hK.out _ _ (⟨keep4 hb qia hR15.1, keep4 hb qib hR15.2.1, keep4 hb qic hR15.2.2⟩) (fun hR16 => ?_)
  clear hK K hR15
  (first | ((fail_if_success (unfold Act.put)); (try simp only [List.setIfInBounds_toArray, List.set])) | (try simp only [Act.put, List.setIfInBounds_toArray, List.set]))
  replace qia := Nat.lt_of_lt_of_le qia hz20
  replace qib := Nat.lt_of_lt_of_le qib hz20
  replace qic := Nat.lt_of_lt_of_le qic hz20
  clear hb hBd
  refine tk (i := 44) (v := ?_) rfl (by kernel_rfl) (fun _ _ _ h => h) (by rfl) ?_ (by assumption) ?_
  rotate_left 1
  · (intro w hSw; (try dsimp only at hSw); go_simp <;> (with_reducible rfl))
  (try simp only [Act.put, List.setIfInBounds_toArray, List.set])
  refine tk (i := 45) (v := ?_) rfl (by kernel_rfl) (fun _ _ _ h => h) (by rfl) ?_ (by assumption) ?_
  rotate_left 1
  · (intro w hSw; (try dsimp only at hSw); go_simp <;> (with_reducible rfl))
  (try simp only [Act.put, List.setIfInBounds_toArray, List.set])
  refine wpAnyH_done (by kernel_rfl) ?_ _
  refine NoPanic.normal ?_
  clear hR16
  clear qia qib qic
  clear g1
  clear g2
  clear g3
  clear g4
  clear g5
  clear g6
  clear g7
  clear g8
  clear h1
  clear h2
  clear h3
  clear h4
  go_wp2_with fail
  obtain ⟨wb, hwb⟩ : ∃ W, W = w20 := ⟨_, rfl⟩
  rw [← hwb] at hB xia xib xic xzero xone ia ib ic gz go ⊢
  clear hwb
  have qia := xia.lt
  have qib := xib.lt
  have qic := xic.lt
  have qzero := xzero.lt
  have qone := xone.lt
  obtain ⟨gia0, gia1, gia2, gia3⟩ := xia.cells4
  obtain ⟨gib0, gib1, gib2, gib3⟩ := xib.cells4
  obtain ⟨gic0, gic1, gic2, gic3⟩ := xic.cells4
  obtain ⟨gzero0, gzero1, gzero2, gzero3⟩ := xzero.cells4
  obtain ⟨gone0, gone1, gone2, gone3⟩ := xone.cells4
  refine wp_region_noPanic ?_
  refine wp_region_held_drew (S := (fun w' => (w'.cell? ⟨w.heap.size, 0, none⟩ = some (.bool bia) ∧ w'.cell? ⟨w.heap.size, 1, none⟩ = some (.slice aia kia cia) ∧ w'.cell? ⟨w.heap.size, 2, none⟩ = some (.bool dia) ∧ w'.cell? ⟨w.heap.size, 3, none⟩ = some (.slice eia lia mia)) ∧ (w'.cell? ⟨w.heap.size + 1, 0, none⟩ = some (.bool bib) ∧ w'.cell? ⟨w.heap.size + 1, 1, none⟩ = some (.slice aib kib cib) ∧ w'.cell? ⟨w.heap.size + 1, 2, none⟩ = some (.bool dib) ∧ w'.cell? ⟨w.heap.size + 1, 3, none⟩ = some (.slice eib lib mib)) ∧ (w'.cell? ⟨w.heap.size + 1 + 1, 0, none⟩ = some (.bool bic) ∧ w'.cell? ⟨w.heap.size + 1 + 1, 1, none⟩ = some (.slice aic kic cic) ∧ w'.cell? ⟨w.heap.size + 1 + 1, 2, none⟩ = some (.bool dic) ∧ w'.cell? ⟨w.heap.size + 1 + 1, 3, none⟩ = some (.slice eic lic mic)) ∧ (w'.cell? ⟨w4.heap.size, 0, none⟩ = some (.bool bz) ∧ w'.cell? ⟨w4.heap.size, 1, none⟩ = some (.slice az kz cz) ∧ w'.cell? ⟨w4.heap.size, 2, none⟩ = some (.bool dz) ∧ w'.cell? ⟨w4.heap.size, 3, none⟩ = some (.slice ez lz mz)) ∧ w'.cell? ⟨w4.heap.size + 1, 0, none⟩ = some (.bool bu) ∧ w'.cell? ⟨w4.heap.size + 1, 1, none⟩ = some (.slice au ku cu) ∧ w'.cell? ⟨w4.heap.size + 1, 2, none⟩ = some (.bool du) ∧ w'.cell? ⟨w4.heap.size + 1, 3, none⟩ = some (.slice eu lu mu))) (by kernel_rfl) ⟨⟨gia0, gia1, gia2, gia3⟩, ⟨gib0, gib1, gib2, gib3⟩, ⟨gic0, gic1, gic2, gic3⟩, ⟨gzero0, gzero1, gzero2, gzero3⟩, ⟨gone0, gone1, gone2, gone3⟩⟩ (fun hR0 => ?_)
  change wpAnyH _ _ _ _ _ 50 #[false, false, false, false, false, false, false, false, false, false, false, false, false, false, false, false, false, false, false, false, false, false, false, false, false, false, false, false, false, false, false, false, false, false, false, false, false, false, false, false, false, false, false, false, false, false, false, false, false, false] _ _
  clear gia0 gia1 gia2 gia3 gib0 gib1 gib2 gib3 gic0 gic1 gic2 gic3 gzero0 gzero1 gzero2 gzero3 gone0 gone1 gone2 gone3
  refine tk (i := 0) (v := ?_) rfl (by kernel_rfl) (fun _ _ _ h => h) (by rfl) ?_ (by assumption) ?_
  rotate_left 1
  · (intro w hSw; (try dsimp only at hSw); go_simp <;> (with_reducible rfl))
  (try simp only [Act.put, List.setIfInBounds_toArray, List.set])
  refine tk (i := 1) (v := ?_) rfl (by kernel_rfl) (fun _ _ _ h => h) (by rfl) ?_ (by assumption) ?_
  rotate_left 1
  · (intro w hSw; (try dsimp only at hSw); go_simp <;> (with_reducible rfl))
  (try simp only [Act.put, List.setIfInBounds_toArray, List.set])
  refine tk (i := 2) (v := ?_) rfl (by kernel_rfl) (fun _ _ _ h => h) (by rfl) ?_ (by assumption) ?_
  rotate_left 1
  · (intro w hSw; (try dsimp only at hSw); go_simp <;> (with_reducible rfl))
  (try simp only [Act.put, List.setIfInBounds_toArray, List.set])
  refine tk (i := 5) (v := ?_) rfl (by kernel_rfl) (fun _ _ _ h => h) (by rfl) ?_ (by assumption) ?_
  rotate_left 1
  · (intro w hSw; (try dsimp only at hSw); go_simp <;> (with_reducible rfl))
  (try simp only [Act.put, List.setIfInBounds_toArray, List.set])
  refine tk (i := 6) (v := ?_) rfl (by kernel_rfl) (fun _ _ _ h => h) (by rfl) ?_ (by assumption) ?_
  rotate_left 1
  · (intro w hSw; (try dsimp only at hSw); go_simp <;> (with_reducible rfl))
  (try simp only [Act.put, List.setIfInBounds_toArray, List.set])
  refine tk (i := 8) (v := ?_) rfl (by kernel_rfl) (fun _ _ _ h => h) (by rfl) ?_ (by assumption) ?_
  rotate_left 1
  · (intro w hSw; (try dsimp only at hSw); go_simp <;> (with_reducible rfl))
  (try simp only [Act.put, List.setIfInBounds_toArray, List.set])
  refine tk (i := 9) (v := ?_) rfl (by kernel_rfl) (fun _ _ _ h => h) (by rfl) ?_ (by assumption) ?_
  rotate_left 1
  · (intro w hSw; (try dsimp only at hSw); go_simp <;> (with_reducible rfl))
  (try simp only [Act.put, List.setIfInBounds_toArray, List.set])
  refine rd1 (i := 3) (by kernel_rfl) rfl (fun K hK => ?_)
  go_simp
  go_at_call 44; have hBd := hB.drew; refine (HK9.out _ _ _ (by exact ib) (by exact ic)).mono ?_; rintro e w21 ⟨⟨vg1, rfl, g1⟩, hb⟩; replace hb := (Below.refl wb.heap.size wb).drew.trans hb; replace xia := xia.on hb; replace xib := xib.on hb; replace xic := xic.on hb; replace xzero := xzero.on hb; replace xone := xone.on hb; replace ia := ia.on hb; replace ib := ib.on hb; replace ic := ic.on hb; replace gz := gz.on hb; replace go := go.on hb; replace hB := hB.trans (hb.mono hB.size); have hz21 := hb.size
  (try go_wp2_with fail)
  refine hK.out _ _ (⟨keep4 hb qia hR0.1, keep4 hb qib hR0.2.1, keep4 hb qic hR0.2.2.1, keep4 hb qzero hR0.2.2.2.1, keep4 hb qone hR0.2.2.2.2⟩) (fun hR1 => ?_)
  clear hK K hR0
  (first | ((fail_if_success (unfold Act.put)); (try simp only [List.setIfInBounds_toArray, List.set])) | (try simp only [Act.put, List.setIfInBounds_toArray, List.set]))
  replace qia := Nat.lt_of_lt_of_le qia hz21
  replace qib := Nat.lt_of_lt_of_le qib hz21
  replace qic := Nat.lt_of_lt_of_le qic hz21
  replace qzero := Nat.lt_of_lt_of_le qzero hz21
  replace qone := Nat.lt_of_lt_of_le qone hz21
  clear hb hBd
  refine rd1 (i := 4) (by kernel_rfl) rfl (fun K hK => ?_)
  go_simp
  go_at_call 45; have hBd := hB; refine (HK16.out _ _ _ ia g1).mono ?_; rintro e w22 ⟨⟨vg2, rfl, g2⟩, hb⟩; replace xia := xia.on hb; replace xib := xib.on hb; replace xic := xic.on hb; replace xzero := xzero.on hb; replace xone := xone.on hb; replace ia := ia.on hb; replace ib := ib.on hb; replace ic := ic.on hb; replace gz := gz.on hb; replace go := go.on hb; replace g1 := g1.on hb; replace hB := hB.trans (hb.mono hB.size); have hz22 := hb.size
  (try go_wp2_with fail)
  refine hK.out _ _ (⟨keep4 hb qia hR1.1, keep4 hb qib hR1.2.1, keep4 hb qic hR1.2.2.1, keep4 hb qzero hR1.2.2.2.1, keep4 hb qone hR1.2.2.2.2⟩) (fun hR2 => ?_)
  clear hK K hR1
  (first | ((fail_if_success (unfold Act.put)); (try simp only [List.setIfInBounds_toArray, List.set])) | (try simp only [Act.put, List.setIfInBounds_toArray, List.set]))
  replace qia := Nat.lt_of_lt_of_le qia hz22
  replace qib := Nat.lt_of_lt_of_le qib hz22
  replace qic := Nat.lt_of_lt_of_le qic hz22
  replace qzero := Nat.lt_of_lt_of_le qzero hz22
  replace qone := Nat.lt_of_lt_of_le qone hz22
  clear hb hBd
  refine rd1 (i := 7) (by kernel_rfl) rfl (fun K hK => ?_)
  go_simp
  go_at_call 45; have hBd := hB; refine (HK5.out _ _ _ ia ib).mono ?_; rintro e w23 ⟨⟨vg3, rfl, g3⟩, hb⟩; replace xia := xia.on hb; replace xib := xib.on hb; replace xic := xic.on hb; replace xzero := xzero.on hb; replace xone := xone.on hb; replace ia := ia.on hb; replace ib := ib.on hb; replace ic := ic.on hb; replace gz := gz.on hb; replace go := go.on hb; replace g1 := g1.on hb; replace g2 := g2.on hb; replace hB := hB.trans (hb.mono hB.size); have hz23 := hb.size
  (try go_wp2_with fail)
  refine hK.out _ _ (⟨keep4 hb qia hR2.1, keep4 hb qib hR2.2.1, keep4 hb qic hR2.2.2.1, keep4 hb qzero hR2.2.2.2.1, keep4 hb qone hR2.2.2.2.2⟩) (fun hR3 => ?_)
  clear hK K hR2
  (first | ((fail_if_success (unfold Act.put)); (try simp only [List.setIfInBounds_toArray, List.set])) | (try simp only [Act.put, List.setIfInBounds_toArray, List.set]))
  replace qia := Nat.lt_of_lt_of_le qia hz23
  replace qib := Nat.lt_of_lt_of_le qib hz23
  replace qic := Nat.lt_of_lt_of_le qic hz23
  replace qzero := Nat.lt_of_lt_of_le qzero hz23
  replace qone := Nat.lt_of_lt_of_le qone hz23
  clear hb hBd
  refine rd1 (i := 10) (by kernel_rfl) rfl (fun K hK => ?_)
  go_simp
  go_at_call 45; have hBd := hB; refine (HK17.out _ _ _ ia ic).mono ?_; rintro e w24 ⟨⟨vg4, rfl, g4⟩, hb⟩; replace xia := xia.on hb; replace xib := xib.on hb; replace xic := xic.on hb; replace xzero := xzero.on hb; replace xone := xone.on hb; replace ia := ia.on hb; replace ib := ib.on hb; replace ic := ic.on hb; replace gz := gz.on hb; replace go := go.on hb; replace g1 := g1.on hb; replace g2 := g2.on hb; replace g3 := g3.on hb; replace hB := hB.trans (hb.mono hB.size); have hz24 := hb.size
  (try go_wp2_with fail)
  refine hK.out _ _ (⟨keep4 hb qia hR3.1, keep4 hb qib hR3.2.1, keep4 hb qic hR3.2.2.1, keep4 hb qzero hR3.2.2.2.1, keep4 hb qone hR3.2.2.2.2⟩) (fun hR4 => ?_)
  clear hK K hR3
  (first | ((fail_if_success (unfold Act.put)); (try simp only [List.setIfInBounds_toArray, List.set])) | (try simp only [Act.put, List.setIfInBounds_toArray, List.set]))
  replace qia := Nat.lt_of_lt_of_le qia hz24
  replace qib := Nat.lt_of_lt_of_le qib hz24
  replace qic := Nat.lt_of_lt_of_le qic hz24
  replace qzero := Nat.lt_of_lt_of_le qzero hz24
  replace qone := Nat.lt_of_lt_of_le qone hz24
  clear hb hBd
  refine rd1 (i := 11) (by kernel_rfl) rfl (fun K hK => ?_)
  go_simp
  go_at_call 44; have hBd := hB; refine (HK18.out _ _ _ g3 g4).mono ?_; rintro e w25 ⟨⟨vg5, rfl, g5⟩, hb⟩; replace xia := xia.on hb; replace xib := xib.on hb; replace xic := xic.on hb; replace xzero := xzero.on hb; replace xone := xone.on hb; replace ia := ia.on hb; replace ib := ib.on hb; replace ic := ic.on hb; replace gz := gz.on hb; replace go := go.on hb; replace g1 := g1.on hb; replace g2 := g2.on hb; replace g3 := g3.on hb; replace g4 := g4.on hb; replace hB := hB.trans (hb.mono hB.size); have hz25 := hb.size
  (try go_wp2_with fail)
  refine hK.out _ _ (⟨keep4 hb qia hR4.1, keep4 hb qib hR4.2.1, keep4 hb qic hR4.2.2.1, keep4 hb qzero hR4.2.2.2.1, keep4 hb qone hR4.2.2.2.2⟩) (fun hR5 => ?_)
  clear hK K hR4
  (first | ((fail_if_success (unfold Act.put)); (try simp only [List.setIfInBounds_toArray, List.set])) | (try simp only [Act.put, List.setIfInBounds_toArray, List.set]))
  replace qia := Nat.lt_of_lt_of_le qia hz25
  replace qib := Nat.lt_of_lt_of_le qib hz25
  replace qic := Nat.lt_of_lt_of_le qic hz25
  replace qzero := Nat.lt_of_lt_of_le qzero hz25
  replace qone := Nat.lt_of_lt_of_le qone hz25
  clear hb hBd
  refine rd1 (i := 12) (by kernel_rfl) rfl (fun K hK => ?_)
  go_simp
  go_at_call 43; have hBd := hB; refine (HK19.out _ _ _ g2 g5).mono ?_; rintro e w26 ⟨rfl, hb⟩; replace xia := xia.on hb; replace xib := xib.on hb; replace xic := xic.on hb; replace xzero := xzero.on hb; replace xone := xone.on hb; replace ia := ia.on hb; replace ib := ib.on hb; replace ic := ic.on hb; replace gz := gz.on hb; replace go := go.on hb; replace g1 := g1.on hb; replace g2 := g2.on hb; replace g3 := g3.on hb; replace g4 := g4.on hb; replace g5 := g5.on hb; replace hB := hB.trans (hb.mono hB.size); have hz26 := hb.size
  (try go_wp2_with fail)
  refine hK.out _ _ (⟨keep4 hb qia hR5.1, keep4 hb qib hR5.2.1, keep4 hb qic hR5.2.2.1, keep4 hb qzero hR5.2.2.2.1, keep4 hb qone hR5.2.2.2.2⟩) (fun hR6 => ?_)
  clear hK K hR5
  (first | ((fail_if_success (unfold Act.put)); (try simp only [List.setIfInBounds_toArray, List.set])) | (try simp only [Act.put, List.setIfInBounds_toArray, List.set]))
  replace qia := Nat.lt_of_lt_of_le qia hz26
  replace qib := Nat.lt_of_lt_of_le qib hz26
  replace qic := Nat.lt_of_lt_of_le qic hz26
  replace qzero := Nat.lt_of_lt_of_le qzero hz26
  replace qone := Nat.lt_of_lt_of_le qone hz26
  clear hb hBd
  refine tk (i := 13) (v := ?_) rfl (by kernel_rfl) (fun _ _ _ h => h) (by rfl) ?_ (by assumption) ?_
  rotate_left 1
  · (intro w hSw; (try dsimp only at hSw); go_simp <;> (with_reducible rfl))
  (try simp only [Act.put, List.setIfInBounds_toArray, List.set])
  refine tk (i := 14) (v := ?_) rfl (by kernel_rfl) (fun _ _ _ h => h) (by rfl) ?_ (by assumption) ?_
  rotate_left 1
  · (intro w hSw; (try dsimp only at hSw); go_simp <;> (with_reducible rfl))
  (try simp only [Act.put, List.setIfInBounds_toArray, List.set])
  refine tk (i := 15) (v := ?_) rfl (by kernel_rfl) (fun _ _ _ h => h) (by rfl) ?_ (by assumption) ?_
  rotate_left 1
  · (intro w hSw; (try dsimp only at hSw); go_simp <;> (with_reducible rfl))
  (try simp only [Act.put, List.setIfInBounds_toArray, List.set])
  refine tk (i := 16) (v := ?_) rfl (by kernel_rfl) (fun _ _ _ h => h) (by rfl) ?_ (by assumption) ?_
  rotate_left 1
  · (intro w hSw; (try dsimp only at hSw); go_simp <;> (with_reducible rfl))
  (try simp only [Act.put, List.setIfInBounds_toArray, List.set])
  refine tk (i := 18) (v := ?_) rfl (by kernel_rfl) (fun _ _ _ h => h) (by rfl) ?_ (by assumption) ?_
  rotate_left 1
  · (intro w hSw; (try dsimp only at hSw); go_simp <;> (with_reducible rfl))
  (try simp only [Act.put, List.setIfInBounds_toArray, List.set])
  refine rd1 (i := 17) (by kernel_rfl) rfl (fun K hK => ?_)
  go_simp
  go_at_call 44; have hBd := hB; refine (HK20.out _ _ _ ia gz).mono ?_; rintro e w27 ⟨⟨vg6, rfl, g6⟩, hb⟩; replace xia := xia.on hb; replace xib := xib.on hb; replace xic := xic.on hb; replace xzero := xzero.on hb; replace xone := xone.on hb; replace ia := ia.on hb; replace ib := ib.on hb; replace ic := ic.on hb; replace gz := gz.on hb; replace go := go.on hb; replace g1 := g1.on hb; replace g2 := g2.on hb; replace g3 := g3.on hb; replace g4 := g4.on hb; replace g5 := g5.on hb; replace hB := hB.trans (hb.mono hB.size); have hz27 := hb.size
  (try go_wp2_with fail)
  refine hK.out _ _ (⟨keep4 hb qia hR6.1, keep4 hb qib hR6.2.1, keep4 hb qic hR6.2.2.1, keep4 hb qzero hR6.2.2.2.1, keep4 hb qone hR6.2.2.2.2⟩) (fun hR7 => ?_)
  clear hK K hR6
  (first | ((fail_if_success (unfold Act.put)); (try simp only [List.setIfInBounds_toArray, List.set])) | (try simp only [Act.put, List.setIfInBounds_toArray, List.set]))
  replace qia := Nat.lt_of_lt_of_le qia hz27
  replace qib := Nat.lt_of_lt_of_le qib hz27
  replace qic := Nat.lt_of_lt_of_le qic hz27
  replace qzero := Nat.lt_of_lt_of_le qzero hz27
  replace qone := Nat.lt_of_lt_of_le qone hz27
  clear hb hBd
  refine rd1 (i := 19) (by kernel_rfl) rfl (fun K hK => ?_)
  go_simp
  go_at_call 43; have hBd := hB; refine (HK21.out _ _ _ g6 ia).mono ?_; rintro e w28 ⟨rfl, hb⟩; replace xia := xia.on hb; replace xib := xib.on hb; replace xic := xic.on hb; replace xzero := xzero.on hb; replace xone := xone.on hb; replace ia := ia.on hb; replace ib := ib.on hb; replace ic := ic.on hb; replace gz := gz.on hb; replace go := go.on hb; replace g1 := g1.on hb; replace g2 := g2.on hb; replace g3 := g3.on hb; replace g4 := g4.on hb; replace g5 := g5.on hb; replace g6 := g6.on hb; replace hB := hB.trans (hb.mono hB.size); have hz28 := hb.size
  (try go_wp2_with fail)
  refine hK.out _ _ (⟨keep4 hb qia hR7.1, keep4 hb qib hR7.2.1, keep4 hb qic hR7.2.2.1, keep4 hb qzero hR7.2.2.2.1, keep4 hb qone hR7.2.2.2.2⟩) (fun hR8 => ?_)
  clear hK K hR7
  (first | ((fail_if_success (unfold Act.put)); (try simp only [List.setIfInBounds_toArray, List.set])) | (try simp only [Act.put, List.setIfInBounds_toArray, List.set]))
  replace qia := Nat.lt_of_lt_of_le qia hz28
  replace qib := Nat.lt_of_lt_of_le qib hz28
  replace qic := Nat.lt_of_lt_of_le qic hz28
  replace qzero := Nat.lt_of_lt_of_le qzero hz28
  replace qone := Nat.lt_of_lt_of_le qone hz28
  clear hb hBd
  refine tk (i := 20) (v := ?_) rfl (by kernel_rfl) (fun _ _ _ h => h) (by rfl) ?_ (by assumption) ?_
  rotate_left 1
  · (intro w hSw; (try dsimp only at hSw); go_simp <;> (with_reducible rfl))
  (try simp only [Act.put, List.setIfInBounds_toArray, List.set])
  refine tk (i := 21) (v := ?_) rfl (by kernel_rfl) (fun _ _ _ h => h) (by rfl) ?_ (by assumption) ?_
  rotate_left 1
  · (intro w hSw; (try dsimp only at hSw); go_simp <;> (with_reducible rfl))
  (try simp only [Act.put, List.setIfInBounds_toArray, List.set])
  refine tk (i := 22) (v := ?_) rfl (by kernel_rfl) (fun _ _ _ h => h) (by rfl) ?_ (by assumption) ?_
  rotate_left 1
  · (intro w hSw; (try dsimp only at hSw); go_simp <;> (with_reducible rfl))
  (try simp only [Act.put, List.setIfInBounds_toArray, List.set])
  refine tk (i := 23) (v := ?_) rfl (by kernel_rfl) (fun _ _ _ h => h) (by rfl) ?_ (by assumption) ?_
  rotate_left 1
  · (intro w hSw; (try dsimp only at hSw); go_simp <;> (with_reducible rfl))
  (try simp only [Act.put, List.setIfInBounds_toArray, List.set])
  refine tk (i := 24) (v := ?_) rfl (by kernel_rfl) (fun _ _ _ h => h) (by rfl) ?_ (by assumption) ?_
  rotate_left 1
  · (intro w hSw; (try dsimp only at hSw); go_simp <;> (with_reducible rfl))
  (try simp only [Act.put, List.setIfInBounds_toArray, List.set])
  refine tk (i := 26) (v := ?_) rfl (by kernel_rfl) (fun _ _ _ h => h) (by rfl) ?_ (by assumption) ?_
  rotate_left 1
  · (intro w hSw; (try dsimp only at hSw); go_simp <;> (with_reducible rfl))
  (try simp only [Act.put, List.setIfInBounds_toArray, List.set])
  refine rd1 (i := 25) (by kernel_rfl) rfl (fun K hK => ?_)
  go_simp
  go_at_call 45; have hBd := hB; refine (HK22.out _ _ _ ia go).mono ?_; rintro e w29 ⟨⟨vg7, rfl, g7⟩, hb⟩; replace xia := xia.on hb; replace xib := xib.on hb; replace xic := xic.on hb; replace xzero := xzero.on hb; replace xone := xone.on hb; replace ia := ia.on hb; replace ib := ib.on hb; replace ic := ic.on hb; replace gz := gz.on hb; replace go := go.on hb; replace g1 := g1.on hb; replace g2 := g2.on hb; replace g3 := g3.on hb; replace g4 := g4.on hb; replace g5 := g5.on hb; replace g6 := g6.on hb; replace hB := hB.trans (hb.mono hB.size); have hz29 := hb.size
  (try go_wp2_with fail)
  refine hK.out _ _ (⟨keep4 hb qia hR8.1, keep4 hb qib hR8.2.1, keep4 hb qic hR8.2.2.1, keep4 hb qzero hR8.2.2.2.1, keep4 hb qone hR8.2.2.2.2⟩) (fun hR9 => ?_)
  clear hK K hR8
  (first | ((fail_if_success (unfold Act.put)); (try simp only [List.setIfInBounds_toArray, List.set])) | (try simp only [Act.put, List.setIfInBounds_toArray, List.set]))
  replace qia := Nat.lt_of_lt_of_le qia hz29
  replace qib := Nat.lt_of_lt_of_le qib hz29
  replace qic := Nat.lt_of_lt_of_le qic hz29
  replace qzero := Nat.lt_of_lt_of_le qzero hz29
  replace qone := Nat.lt_of_lt_of_le qone hz29
  clear hb hBd
  refine rd1 (i := 27) (by kernel_rfl) rfl (fun K hK => ?_)
  go_simp
  go_at_call 43; have hBd := hB; refine (HK21.out _ _ _ g7 ia).mono ?_; rintro e w30 ⟨rfl, hb⟩; replace xia := xia.on hb; replace xib := xib.on hb; replace xic := xic.on hb; replace xzero := xzero.on hb; replace xone := xone.on hb; replace ia := ia.on hb; replace ib := ib.on hb; replace ic := ic.on hb; replace gz := gz.on hb; replace go := go.on hb; replace g1 := g1.on hb; replace g2 := g2.on hb; replace g3 := g3.on hb; replace g4 := g4.on hb; replace g5 := g5.on hb; replace g6 := g6.on hb; replace g7 := g7.on hb; replace hB := hB.trans (hb.mono hB.size); have hz30 := hb.size
  (try go_wp2_with fail)
  refine hK.out _ _ (⟨keep4 hb qia hR9.1, keep4 hb qib hR9.2.1, keep4 hb qic hR9.2.2.1, keep4 hb qzero hR9.2.2.2.1, keep4 hb qone hR9.2.2.2.2⟩) (fun hR10 => ?_)
  clear hK K hR9
  (first | ((fail_if_success (unfold Act.put)); (try simp only [List.setIfInBounds_toArray, List.set])) | (try simp only [Act.put, List.setIfInBounds_toArray, List.set]))
  replace qia := Nat.lt_of_lt_of_le qia hz30
  replace qib := Nat.lt_of_lt_of_le qib hz30
  replace qic := Nat.lt_of_lt_of_le qic hz30
  replace qzero := Nat.lt_of_lt_of_le qzero hz30
  replace qone := Nat.lt_of_lt_of_le qone hz30
  clear hb hBd
  refine tk (i := 28) (v := ?_) rfl (by kernel_rfl) (fun _ _ _ h => h) (by rfl) ?_ (by assumption) ?_
  rotate_left 1
  · (intro w hSw; (try dsimp only at hSw); go_simp <;> (with_reducible rfl))
  (try simp only [Act.put, List.setIfInBounds_toArray, List.set])
  refine tk (i := 29) (v := ?_) rfl (by kernel_rfl) (fun _ _ _ h => h) (by rfl) ?_ (by assumption) ?_
  rotate_left 1
  · (intro w hSw; (try dsimp only at hSw); go_simp <;> (with_reducible rfl))
  (try simp only [Act.put, List.setIfInBounds_toArray, List.set])
  refine tk (i := 30) (v := ?_) rfl (by kernel_rfl) (fun _ _ _ h => h) (by rfl) ?_ (by assumption) ?_
  rotate_left 1
  · (intro w hSw; (try dsimp only at hSw); go_simp <;> (with_reducible rfl))
  (try simp only [Act.put, List.setIfInBounds_toArray, List.set])
  refine tk (i := 31) (v := ?_) rfl (by kernel_rfl) (fun _ _ _ h => h) (by rfl) ?_ (by assumption) ?_
  rotate_left 1
  · (intro w hSw; (try dsimp only at hSw); go_simp <;> (with_reducible rfl))
  (try simp only [Act.put, List.setIfInBounds_toArray, List.set])
  refine tk (i := 32) (v := ?_) rfl (by kernel_rfl) (fun _ _ _ h => h) (by rfl) ?_ (by assumption) ?_
  rotate_left 1
  · (intro w hSw; (try dsimp only at hSw); go_simp <;> (with_reducible rfl))
  (try simp only [Act.put, List.setIfInBounds_toArray, List.set])
  refine tk (i := 34) (v := ?_) rfl (by kernel_rfl) (fun _ _ _ h => h) (by rfl) ?_ (by assumption) ?_
  rotate_left 1
  · (intro w hSw; (try dsimp only at hSw); go_simp <;> (with_reducible rfl))
  (try simp only [Act.put, List.setIfInBounds_toArray, List.set])
  refine tk (i := 36) (v := ?_) rfl (by kernel_rfl) (fun _ _ _ h => h) (by rfl) ?_ (by assumption) ?_
  rotate_left 1
  · (intro w hSw; (try dsimp only at hSw); go_simp <;> (with_reducible rfl))
  (try simp only [Act.put, List.setIfInBounds_toArray, List.set])
  refine rd1 (i := 33) (by kernel_rfl) rfl (fun K hK => ?_)
  go_simp
  go_at_call 44; have hBd := hB; refine (HK2.out _ _ _ ia ib).mono ?_; rintro e w31 ⟨⟨vg8, rfl, g8⟩, hb⟩; replace xia := xia.on hb; replace xib := xib.on hb; replace xic := xic.on hb; replace xzero := xzero.on hb; replace xone := xone.on hb; replace ia := ia.on hb; replace ib := ib.on hb; replace ic := ic.on hb; replace gz := gz.on hb; replace go := go.on hb; replace g1 := g1.on hb; replace g2 := g2.on hb; replace g3 := g3.on hb; replace g4 := g4.on hb; replace g5 := g5.on hb; replace g6 := g6.on hb; replace g7 := g7.on hb; replace hB := hB.trans (hb.mono hB.size); have hz31 := hb.size
  (try go_wp2_with fail)
  refine hK.out _ _ (⟨keep4 hb qia hR10.1, keep4 hb qib hR10.2.1, keep4 hb qic hR10.2.2.1, keep4 hb qzero hR10.2.2.2.1, keep4 hb qone hR10.2.2.2.2⟩) (fun hR11 => ?_)
  clear hK K hR10
  (first | ((fail_if_success (unfold Act.put)); (try simp only [List.setIfInBounds_toArray, List.set])) | (try simp only [Act.put, List.setIfInBounds_toArray, List.set]))
  replace qia := Nat.lt_of_lt_of_le qia hz31
  replace qib := Nat.lt_of_lt_of_le qib hz31
  replace qic := Nat.lt_of_lt_of_le qic hz31
  replace qzero := Nat.lt_of_lt_of_le qzero hz31
  replace qone := Nat.lt_of_lt_of_le qone hz31
  clear hb hBd
  refine rd1 (i := 35) (by kernel_rfl) rfl (fun K hK => ?_)
  go_simp
  go_at_call 46; have hBd := hB; refine (HK23.out _ _ _ g8 ib).mono ?_; rintro e w32 ⟨⟨vg9, rfl, g9⟩, hb⟩; replace xia := xia.on hb; replace xib := xib.on hb; replace xic := xic.on hb; replace xzero := xzero.on hb; replace xone := xone.on hb; replace ia := ia.on hb; replace ib := ib.on hb; replace ic := ic.on hb; replace gz := gz.on hb; replace go := go.on hb; replace g1 := g1.on hb; replace g2 := g2.on hb; replace g3 := g3.on hb; replace g4 := g4.on hb; replace g5 := g5.on hb; replace g6 := g6.on hb; replace g7 := g7.on hb; replace g8 := g8.on hb; replace hB := hB.trans (hb.mono hB.size); have hz32 := hb.size
  (try go_wp2_with fail)
  refine hK.out _ _ (⟨keep4 hb qia hR11.1, keep4 hb qib hR11.2.1, keep4 hb qic hR11.2.2.1, keep4 hb qzero hR11.2.2.2.1, keep4 hb qone hR11.2.2.2.2⟩) (fun hR12 => ?_)
  clear hK K hR11
  (first | ((fail_if_success (unfold Act.put)); (try simp only [List.setIfInBounds_toArray, List.set])) | (try simp only [Act.put, List.setIfInBounds_toArray, List.set]))
  replace qia := Nat.lt_of_lt_of_le qia hz32
  replace qib := Nat.lt_of_lt_of_le qib hz32
  replace qic := Nat.lt_of_lt_of_le qic hz32
  replace qzero := Nat.lt_of_lt_of_le qzero hz32
  replace qone := Nat.lt_of_lt_of_le qone hz32
  clear hb hBd
  refine rd1 (i := 37) (by kernel_rfl) rfl (fun K hK => ?_)
  go_simp
  go_at_call 43; have hBd := hB; refine (HK21.out _ _ _ g9 ia).mono ?_; rintro e w33 ⟨rfl, hb⟩; replace xia := xia.on hb; replace xib := xib.on hb; replace xic := xic.on hb; replace xzero := xzero.on hb; replace xone := xone.on hb; replace ia := ia.on hb; replace ib := ib.on hb; replace ic := ic.on hb; replace gz := gz.on hb; replace go := go.on hb; replace g1 := g1.on hb; replace g2 := g2.on hb; replace g3 := g3.on hb; replace g4 := g4.on hb; replace g5 := g5.on hb; replace g6 := g6.on hb; replace g7 := g7.on hb; replace g8 := g8.on hb; replace g9 := g9.on hb; replace hB := hB.trans (hb.mono hB.size); have hz33 := hb.size
  (try go_wp2_with fail)
  refine hK.out _ _ (⟨keep4 hb qia hR12.1, keep4 hb qib hR12.2.1, keep4 hb qic hR12.2.2.1, keep4 hb qzero hR12.2.2.2.1, keep4 hb qone hR12.2.2.2.2⟩) (fun hR13 => ?_)
  clear hK K hR12
  (first | ((fail_if_success (unfold Act.put)); (try simp only [List.setIfInBounds_toArray, List.set])) | (try simp only [Act.put, List.setIfInBounds_toArray, List.set]))
  replace qia := Nat.lt_of_lt_of_le qia hz33
  replace qib := Nat.lt_of_lt_of_le qib hz33
  replace qic := Nat.lt_of_lt_of_le qic hz33
  replace qzero := Nat.lt_of_lt_of_le qzero hz33
  replace qone := Nat.lt_of_lt_of_le qone hz33
  clear hb hBd
  refine tk (i := 38) (v := ?_) rfl (by kernel_rfl) (fun _ _ _ h => h) (by rfl) ?_ (by assumption) ?_
  rotate_left 1
  · (intro w hSw; (try dsimp only at hSw); go_simp <;> (with_reducible rfl))
  (try simp only [Act.put, List.setIfInBounds_toArray, List.set])
  refine tk (i := 39) (v := ?_) rfl (by kernel_rfl) (fun _ _ _ h => h) (by rfl) ?_ (by assumption) ?_
  rotate_left 1
  · (intro w hSw; (try dsimp only at hSw); go_simp <;> (with_reducible rfl))
  (try simp only [Act.put, List.setIfInBounds_toArray, List.set])
  refine tk (i := 40) (v := ?_) rfl (by kernel_rfl) (fun _ _ _ h => h) (by rfl) ?_ (by assumption) ?_
  rotate_left 1
  · (intro w hSw; (try dsimp only at hSw); go_simp <;> (with_reducible rfl))
  (try simp only [Act.put, List.setIfInBounds_toArray, List.set])
  refine tk (i := 41) (v := ?_) rfl (by kernel_rfl) (fun _ _ _ h => h) (by rfl) ?_ (by assumption) ?_
  rotate_left 1
  · (intro w hSw; (try dsimp only at hSw); go_simp <;> (with_reducible rfl))
  (try simp only [Act.put, List.setIfInBounds_toArray, List.set])
  refine tk (i := 42) (v := ?_) rfl (by kernel_rfl) (fun _ _ _ h => h) (by rfl) ?_ (by assumption) ?_
  rotate_left 1
  · (intro w hSw; (try dsimp only at hSw); go_simp <;> (with_reducible rfl))
  (try simp only [Act.put, List.setIfInBounds_toArray, List.set])
  refine tk (i := 43) (v := ?_) rfl (by kernel_rfl) (fun _ _ _ h => h) (by rfl) ?_ (by assumption) ?_
  rotate_left 1
  · (intro w hSw; (try dsimp only at hSw); go_simp <;> (with_reducible rfl))
  (try simp only [Act.put, List.setIfInBounds_toArray, List.set])
  refine tk (i := 46) (v := ?_) rfl (by kernel_rfl) (fun _ _ _ h => h) (by rfl) ?_ (by assumption) ?_
  rotate_left 1
  · (intro w hSw; (try dsimp only at hSw); go_simp <;> (with_reducible rfl))
  (try simp only [Act.put, List.setIfInBounds_toArray, List.set])
  refine rd1 (i := 44) (by kernel_rfl) rfl (fun K hK => ?_)
  go_simp
  go_at_call 46; have hBd := hB; refine (HK24.out _ _ _ gz ia).mono ?_; rintro e w34 ⟨⟨vh1, rfl, h1⟩, hb⟩; replace xia := xia.on hb; replace xib := xib.on hb; replace xic := xic.on hb; replace xzero := xzero.on hb; replace xone := xone.on hb; replace ia := ia.on hb; replace ib := ib.on hb; replace ic := ic.on hb; replace gz := gz.on hb; replace go := go.on hb; replace g1 := g1.on hb; replace g2 := g2.on hb; replace g3 := g3.on hb; replace g4 := g4.on hb; replace g5 := g5.on hb; replace g6 := g6.on hb; replace g7 := g7.on hb; replace g8 := g8.on hb; replace g9 := g9.on hb; replace hB := hB.trans (hb.mono hB.size); have hz34 := hb.size
  (try go_wp2_with fail)
  refine hK.out _ _ (⟨keep4 hb qia hR13.1, keep4 hb qib hR13.2.1, keep4 hb qic hR13.2.2.1, keep4 hb qzero hR13.2.2.2.1, keep4 hb qone hR13.2.2.2.2⟩) (fun hR14 => ?_)
  clear hK K hR13
  (first | ((fail_if_success (unfold Act.put)); (try simp only [List.setIfInBounds_toArray, List.set])) | (try simp only [Act.put, List.setIfInBounds_toArray, List.set]))
  replace qia := Nat.lt_of_lt_of_le qia hz34
  replace qib := Nat.lt_of_lt_of_le qib hz34
  replace qic := Nat.lt_of_lt_of_le qic hz34
  replace qzero := Nat.lt_of_lt_of_le qzero hz34
  replace qone := Nat.lt_of_lt_of_le qone hz34
  clear hb hBd
  refine rd1 (i := 45) (by kernel_rfl) rfl (fun K hK => ?_)
  go_simp
  go_at_call 44; have hBd := hB; refine (HK25.out _ _ _ ia h1).mono ?_; rintro e w35 ⟨⟨vh2, rfl, h2⟩, hb⟩; replace xia := xia.on hb; replace xib := xib.on hb; replace xic := xic.on hb; replace xzero := xzero.on hb; replace xone := xone.on hb; replace ia := ia.on hb; replace ib := ib.on hb; replace ic := ic.on hb; replace gz := gz.on hb; replace go := go.on hb; replace g1 := g1.on hb; replace g2 := g2.on hb; replace g3 := g3.on hb; replace g4 := g4.on hb; replace g5 := g5.on hb; replace g6 := g6.on hb; replace g7 := g7.on hb; replace g8 := g8.on hb; replace g9 := g9.on hb; replace h1 := h1.on hb; replace hB := hB.trans (hb.mono hB.size); have hz35 := hb.size
  (try go_wp2_with fail)
  refine hK.out _ _ (⟨keep4 hb qia hR14.1, keep4 hb qib hR14.2.1, keep4 hb qic hR14.2.2.1, keep4 hb qzero hR14.2.2.2.1, keep4 hb qone hR14.2.2.2.2⟩) (fun hR15 => ?_)
  clear hK K hR14
  (first | ((fail_if_success (unfold Act.put)); (try simp only [List.setIfInBounds_toArray, List.set])) | (try simp only [Act.put, List.setIfInBounds_toArray, List.set]))
  replace qia := Nat.lt_of_lt_of_le qia hz35
  replace qib := Nat.lt_of_lt_of_le qib hz35
  replace qic := Nat.lt_of_lt_of_le qic hz35
  replace qzero := Nat.lt_of_lt_of_le qzero hz35
  replace qone := Nat.lt_of_lt_of_le qone hz35
  clear hb hBd
  refine rd1 (i := 47) (by kernel_rfl) rfl (fun K hK => ?_)
  go_simp
  go_at_call 43; have hBd := hB; refine (HK26.out _ _ _ h2 gz).mono ?_; rintro e w36 ⟨rfl, hb⟩; replace xia := xia.on hb; replace xib := xib.on hb; replace xic := xic.on hb; replace xzero := xzero.on hb; replace xone := xone.on hb; replace ia := ia.on hb; replace ib := ib.on hb; replace ic := ic.on hb; replace gz := gz.on hb; replace go := go.on hb; replace g1 := g1.on hb; replace g2 := g2.on hb; replace g3 := g3.on hb; replace g4 := g4.on hb; replace g5 := g5.on hb; replace g6 := g6.on hb; replace g7 := g7.on hb; replace g8 := g8.on hb; replace g9 := g9.on hb; replace h1 := h1.on hb; replace h2 := h2.on hb; replace hB := hB.trans (hb.mono hB.size); have hz36 := hb.size
  (try go_wp2_with fail)
  refine hK.out _ _ (⟨keep4 hb qia hR15.1, keep4 hb qib hR15.2.1, keep4 hb qic hR15.2.2.1, keep4 hb qzero hR15.2.2.2.1, keep4 hb qone hR15.2.2.2.2⟩) (fun hR16 => ?_)
  clear hK K hR15
  (first | ((fail_if_success (unfold Act.put)); (try simp only [List.setIfInBounds_toArray, List.set])) | (try simp only [Act.put, List.setIfInBounds_toArray, List.set]))
  replace qia := Nat.lt_of_lt_of_le qia hz36
  replace qib := Nat.lt_of_lt_of_le qib hz36
  replace qic := Nat.lt_of_lt_of_le qic hz36
  replace qzero := Nat.lt_of_lt_of_le qzero hz36
  replace qone := Nat.lt_of_lt_of_le qone hz36
  clear hb hBd
  refine tk (i := 48) (v := ?_) rfl (by kernel_rfl) (fun _ _ _ h => h) (by rfl) ?_ (by assumption) ?_
  rotate_left 1
  · (intro w hSw; (try dsimp only at hSw); go_simp <;> (with_reducible rfl))
  (try simp only [Act.put, List.setIfInBounds_toArray, List.set])
  refine tk (i := 49) (v := ?_) rfl (by kernel_rfl) (fun _ _ _ h => h) (by rfl) ?_ (by assumption) ?_
  rotate_left 1
  · (intro w hSw; (try dsimp only at hSw); go_simp <;> (with_reducible rfl))
  (try simp only [Act.put, List.setIfInBounds_toArray, List.set])
  refine wpAnyH_done (by kernel_rfl) ?_ _
  refine NoPanic.normal ?_
  clear hR16
  clear qia qib qic qzero qone
  clear g1
  clear g2
  clear g3
  clear g4
  clear g5
  clear g6
  clear g7
  clear g8
  clear g9
  clear h1
  clear h2
  have pia := xia.all4
  have pib := xib.all4
  have pic := xic.all4
  have pzero := xzero.all4
  have pone := xone.all4
  have ltia := xia.lt
  have ltib := xib.lt
  have ltic := xic.lt
  have ltzero := xzero.lt
  have ltone := xone.lt
  go_wp2_with fail
  clear ltia
  clear ltib
  clear ltic
  clear ltzero
  clear ltone
  clear pia pib pic pzero pone
  refine (HK27.out _ _ ia).mono ?_
  rintro e w37 ⟨⟨v, rfl, gn⟩, hb⟩
  obtain ⟨bn, an, kn, cn, dn, en, ln, mn, rfl⟩ := gn.opened
  replace xia := xia.on hb
  replace xib := xib.on hb
  replace xic := xic.on hb
  replace xzero := xzero.on hb
  replace xone := xone.on hb
  replace ia := ia.on hb
  replace ib := ib.on hb
  replace ic := ic.on hb
  replace gz := gz.on hb
  replace go := go.on hb
  have hz37 := hb.size
  try simp at hz37
  replace hB := hB.trans (hb.mono hB.size)
  clear hb
  go_wp2_with fail
  have hb := ((Below.refl w37.heap.size w37).alloc (Nat.le_refl _) (.cells #[.bool bn, .slice an kn cn, .bool dn, .slice en ln mn] 26))
  have xnn : Bk _ w37.heap.size #[.bool bn, .slice an kn cn, .bool dn, .slice en ln mn] 26 := (Bk.new w37 #[.bool bn, .slice an kn cn, .bool dn, .slice en ln mn] 26)
  replace xia := xia.on hb
  replace xib := xib.on hb
  replace xic := xic.on hb
  replace xzero := xzero.on hb
  replace xone := xone.on hb
  replace ia := ia.on hb
  replace ib := ib.on hb
  replace ic := ic.on hb
  replace gz := gz.on hb
  replace go := go.on hb
  replace gn := gn.on hb
  replace hB := hB.trans (hb.mono hB.size)
  clear hb
  obtain ⟨wc, hwc⟩ : ∃ W, W = (w37.alloc (.cells #[.bool bn, .slice an kn cn, .bool dn, .slice en ln mn] 26)) := ⟨_, rfl⟩
  rw [← hwc] at hB xia xib xic xzero xone xnn ia ib ic gz go gn ⊢
  clear hwc
  have qnn := xnn.lt
  have qzero := xzero.lt
  have qia := xia.lt
  obtain ⟨gnn0, gnn1, gnn2, gnn3⟩ := xnn.cells4
  obtain ⟨gzero0, gzero1, gzero2, gzero3⟩ := xzero.cells4
  obtain ⟨gia0, gia1, gia2, gia3⟩ := xia.cells4
  refine wp_region_noPanic ?_
  refine wp_region_held_drew (S := (fun w' => (w'.cell? ⟨w37.heap.size, 0, none⟩ = some (.bool bn) ∧ w'.cell? ⟨w37.heap.size, 1, none⟩ = some (.slice an kn cn) ∧ w'.cell? ⟨w37.heap.size, 2, none⟩ = some (.bool dn) ∧ w'.cell? ⟨w37.heap.size, 3, none⟩ = some (.slice en ln mn)) ∧ (w'.cell? ⟨w4.heap.size, 0, none⟩ = some (.bool bz) ∧ w'.cell? ⟨w4.heap.size, 1, none⟩ = some (.slice az kz cz) ∧ w'.cell? ⟨w4.heap.size, 2, none⟩ = some (.bool dz) ∧ w'.cell? ⟨w4.heap.size, 3, none⟩ = some (.slice ez lz mz)) ∧ w'.cell? ⟨w.heap.size, 0, none⟩ = some (.bool bia) ∧ w'.cell? ⟨w.heap.size, 1, none⟩ = some (.slice aia kia cia) ∧ w'.cell? ⟨w.heap.size, 2, none⟩ = some (.bool dia) ∧ w'.cell? ⟨w.heap.size, 3, none⟩ = some (.slice eia lia mia))) (by kernel_rfl) ⟨⟨gnn0, gnn1, gnn2, gnn3⟩, ⟨gzero0, gzero1, gzero2, gzero3⟩, ⟨gia0, gia1, gia2, gia3⟩⟩ (fun hR0 => ?_)
  change wpAnyH _ _ _ _ _ 10 #[false, false, false, false, false, false, false, false, false, false] _ _
  clear gnn0 gnn1 gnn2 gnn3 gzero0 gzero1 gzero2 gzero3 gia0 gia1 gia2 gia3
  refine tk (i := 0) (v := ?_) rfl (by kernel_rfl) (fun _ _ _ h => h) (by rfl) ?_ (by assumption) ?_
  rotate_left 1
  · (intro w hSw; (try dsimp only at hSw); go_simp <;> (with_reducible rfl))
  (try simp only [Act.put, List.setIfInBounds_toArray, List.set])
  refine tk (i := 1) (v := ?_) rfl (by kernel_rfl) (fun _ _ _ h => h) (by rfl) ?_ (by assumption) ?_
  rotate_left 1
  · (intro w hSw; (try dsimp only at hSw); go_simp <;> (with_reducible rfl))
  (try simp only [Act.put, List.setIfInBounds_toArray, List.set])
  refine tk (i := 2) (v := ?_) rfl (by kernel_rfl) (fun _ _ _ h => h) (by rfl) ?_ (by assumption) ?_
  rotate_left 1
  · (intro w hSw; (try dsimp only at hSw); go_simp <;> (with_reducible rfl))
  (try simp only [Act.put, List.setIfInBounds_toArray, List.set])
  refine tk (i := 3) (v := ?_) rfl (by kernel_rfl) (fun _ _ _ h => h) (by rfl) ?_ (by assumption) ?_
  rotate_left 1
  · (intro w hSw; (try dsimp only at hSw); go_simp <;> (with_reducible rfl))
  (try simp only [Act.put, List.setIfInBounds_toArray, List.set])
  refine tk (i := 4) (v := ?_) rfl (by kernel_rfl) (fun _ _ _ h => h) (by rfl) ?_ (by assumption) ?_
  rotate_left 1
  · (intro w hSw; (try dsimp only at hSw); go_simp <;> (with_reducible rfl))
  (try simp only [Act.put, List.setIfInBounds_toArray, List.set])
  refine tk (i := 5) (v := ?_) rfl (by kernel_rfl) (fun _ _ _ h => h) (by rfl) ?_ (by assumption) ?_
  rotate_left 1
  · (intro w hSw; (try dsimp only at hSw); go_simp <;> (with_reducible rfl))
  (try simp only [Act.put, List.setIfInBounds_toArray, List.set])
  refine rd1 (i := 6) (by kernel_rfl) rfl (fun K hK => ?_)
  go_simp
  go_at_call 46; have hBd := hB.drew; refine (HK24.out _ _ _ (by exact gz) (by exact ia)).mono ?_; rintro e w38 ⟨⟨vh1, rfl, h1⟩, hb⟩; replace hb := (Below.refl wc.heap.size wc).drew.trans hb; replace xia := xia.on hb; replace xib := xib.on hb; replace xic := xic.on hb; replace xzero := xzero.on hb; replace xone := xone.on hb; replace xnn := xnn.on hb; replace ia := ia.on hb; replace ib := ib.on hb; replace ic := ic.on hb; replace gz := gz.on hb; replace go := go.on hb; replace gn := gn.on hb; replace hB := hB.trans (hb.mono hB.size); have hz38 := hb.size
  (try go_wp2_with fail)
  refine hK.out _ _ (⟨keep4 hb qnn hR0.1, keep4 hb qzero hR0.2.1, keep4 hb qia hR0.2.2⟩) (fun hR1 => ?_)
  clear hK K hR0
  (first | ((fail_if_success (unfold Act.put)); (try simp only [List.setIfInBounds_toArray, List.set])) | (try simp only [Act.put, List.setIfInBounds_toArray, List.set]))
  replace qnn := Nat.lt_of_lt_of_le qnn hz38
  replace qzero := Nat.lt_of_lt_of_le qzero hz38
  replace qia := Nat.lt_of_lt_of_le qia hz38
  clear hb hBd
  refine rd1 (i := 7) (by kernel_rfl) rfl (fun K hK => ?_)
  go_simp
  go_at_call 43; have hBd := hB; refine (HK28.out _ _ _ gn h1).mono ?_; rintro e w39 ⟨rfl, hb⟩; replace xia := xia.on hb; replace xib := xib.on hb; replace xic := xic.on hb; replace xzero := xzero.on hb; replace xone := xone.on hb; replace xnn := xnn.on hb; replace ia := ia.on hb; replace ib := ib.on hb; replace ic := ic.on hb; replace gz := gz.on hb; replace go := go.on hb; replace gn := gn.on hb; replace h1 := h1.on hb; replace hB := hB.trans (hb.mono hB.size); have hz39 := hb.size
  (try go_wp2_with fail)
  refine hK.out _ _ (⟨keep4 hb qnn hR1.1, keep4 hb qzero hR1.2.1, keep4 hb qia hR1.2.2⟩) (fun hR2 => ?_)
  clear hK K hR1
  (first | ((fail_if_success (unfold Act.put)); (try simp only [List.setIfInBounds_toArray, List.set])) | (try simp only [Act.put, List.setIfInBounds_toArray, List.set]))
  replace qnn := Nat.lt_of_lt_of_le qnn hz39
  replace qzero := Nat.lt_of_lt_of_le qzero hz39
  replace qia := Nat.lt_of_lt_of_le qia hz39
  clear hb hBd
  refine tk (i := 8) (v := ?_) rfl (by kernel_rfl) (fun _ _ _ h => h) (by rfl) ?_ (by assumption) ?_
  rotate_left 1
  · (intro w hSw; (try dsimp only at hSw); go_simp <;> (with_reducible rfl))
  (try simp only [Act.put, List.setIfInBounds_toArray, List.set])
  refine tk (i := 9) (v := ?_) rfl (by kernel_rfl) (fun _ _ _ h => h) (by rfl) ?_ (by assumption) ?_
  rotate_left 1
  · (intro w hSw; (try dsimp only at hSw); go_simp <;> (with_reducible rfl))
  (try simp only [Act.put, List.setIfInBounds_toArray, List.set])
  refine wpAnyH_done (by kernel_rfl) ?_ _
  refine NoPanic.normal ?_
  clear hR2
  clear qnn qzero qia
  clear h1
  clear gn
  clear xnn
  have hk := (num_len (fra_nums ib).2.2.1).1
  rw [hb0, show (0 : Rat).num.natAbs = 0 from rfl, dig_zero, List.length_nil] at hk
  subst hk
  have pia := xia.all4
  have pib := xib.all4
  have pic := xic.all4
  have pzero := xzero.all4
  have pone := xone.all4
  have ltia := xia.lt
  have ltib := xib.lt
  have ltic := xic.lt
  have ltzero := xzero.lt
  have ltone := xone.lt
  go_wp2_with fail
  clear ltia
  clear ltib
  clear ltic
  clear ltzero
  clear ltone
  clear pia pib pic pzero pone
  refine (HK29.out _ ia ib).mono ?_
  rintro e w40 ⟨rfl, hb⟩
  replace xia := xia.on hb
  replace xib := xib.on hb
  replace xic := xic.on hb
  replace xzero := xzero.on hb
  replace xone := xone.on hb
  replace ia := ia.on hb
  replace ib := ib.on hb
  replace ic := ic.on hb
  replace gz := gz.on hb
  replace go := go.on hb
  have hz40 := hb.size
  try simp at hz40
  replace hB := hB.trans (hb.mono hB.size)
  clear hb
  clear hb0
  go_wp2
  go_ret
  exact ⟨rfl, hB.alloc hB.size _⟩
set_option maxRecDepth 100000 in
set_option maxHeartbeats 8000000 in
theorem FracField_more (a b c : Rat) (sa : Fz 40 40 a) (sb : Fz 40 40 b) (sc : Fz 40 40 c) (bia : Bool) (aia : Option Addr) (kia cia : Nat) (dia : Bool) (eia : Option Addr) (lia mia : Nat) (bib : Bool) (aib : Option Addr) (kib cib : Nat) (dib : Bool) (eib : Option Addr) (lib mib : Nat) (bic : Bool) (aic : Option Addr) (kic cic : Nat) (dic : Bool) (eic : Option Addr) (lic mic : Nat) (hb0 : b ≠ 0) (w : World) (ia : Fra w (.agg #[.bool bia, .slice aia kia cia, .bool dia, .slice eia lia mia]) a) (ib : Fra w (.agg #[.bool bib, .slice aib kib cib, .bool dib, .slice eib lib mib]) b) (ic : Fra w (.agg #[.bool bic, .slice aic kic cic, .bool dic, .slice eic lic mic]) c) :
    Calls Tryz.prog 7 #[.agg #[.bool bia, .slice aia kia cia, .bool dia, .slice eia lia mia], .agg #[.bool bib, .slice aib kib cib, .bool dib, .slice eib lib mib], .agg #[.bool bic, .slice aic kic cic, .bool dic, .slice eic lic mic]] w fun e w' => e = .returned (.bool true) ∧ Below w.heap.size w w' := by
  have HK0 := Lib.hid (fun W => frFromInt_lit 0 (0) (by decide +kernel) (by decide) (by decide) W)
  have HK1 := Lib.hid (fun W => frFromInt_lit 1 (1) (by decide +kernel) (by decide) (by decide) W)
  have HK2 := Lib.hid (fun vx vy W (h : Fra W vx (a)) (g : Fra W vy (b)) => law2_sum_any vx vy (a) (b) (a + b) rfl (Fz.mono (q := a) sa (by decide) (by decide)) (Fz.mono (q := b) sb (by decide) (by decide)) (Fz.mono (q := (a + b)) (Fz.add sa sb) (by decide) (by decide)) W h g)
  have HK3 := Lib.hid (fun vx vy W (h : Fra W vx (b)) (g : Fra W vy (a)) => law2_sum_any vx vy (b) (a) (a + b) (by grind) (Fz.mono (q := b) sb (by decide) (by decide)) (Fz.mono (q := a) sa (by decide) (by decide)) (Fz.mono (q := (a + b)) (Fz.add sa sb) (by decide) (by decide)) W h g)
  have HK4 := Lib.hid (fun vx vy W (h : Fra W vx (a + b)) (g : Fra W vy (a + b)) => law2_equal_any vx vy (a + b) (Fz.mono (q := (a + b)) (Fz.add sa sb) (by decide) (by decide)) W h g)
  have HK5 := Lib.hid (fun vx vy W (h : Fra W vx (a)) (g : Fra W vy (b)) => law2_product_any vx vy (a) (b) (a * b) rfl (Fz.mono (q := a) sa (by decide) (by decide)) (Fz.mono (q := b) sb (by decide) (by decide)) (Fz.mono (q := (a * b)) (Fz.mul sa sb) (by decide) (by decide)) W h g)
  have HK6 := Lib.hid (fun vx vy W (h : Fra W vx (b)) (g : Fra W vy (a)) => law2_product_any vx vy (b) (a) (a * b) (by grind) (Fz.mono (q := b) sb (by decide) (by decide)) (Fz.mono (q := a) sa (by decide) (by decide)) (Fz.mono (q := (a * b)) (Fz.mul sa sb) (by decide) (by decide)) W h g)
  have HK7 := Lib.hid (fun vx vy W (h : Fra W vx (a * b)) (g : Fra W vy (a * b)) => law2_equal_any vx vy (a * b) (Fz.mono (q := (a * b)) (Fz.mul sa sb) (by decide) (by decide)) W h g)
  have HK8 := Lib.hid (fun vx vy W (h : Fra W vx (a + b)) (g : Fra W vy (c)) => law2_sum_any vx vy (a + b) (c) ((a + b) + c) rfl (Fz.mono (q := (a + b)) (Fz.add sa sb) (by decide) (by decide)) (Fz.mono (q := c) sc (by decide) (by decide)) (Fz.mono (q := (a + b) + c) (Fz.add (Fz.add sa sb) sc) (by decide) (by decide)) W h g)
  have HK9 := Lib.hid (fun vx vy W (h : Fra W vx (b)) (g : Fra W vy (c)) => law2_sum_any vx vy (b) (c) (b + c) rfl (Fz.mono (q := b) sb (by decide) (by decide)) (Fz.mono (q := c) sc (by decide) (by decide)) (Fz.mono (q := (b + c)) (Fz.add sb sc) (by decide) (by decide)) W h g)
  have HK10 := Lib.hid (fun vx vy W (h : Fra W vx (a)) (g : Fra W vy (b + c)) => law2_sum_any vx vy (a) (b + c) ((a + b) + c) (by grind) (Fz.mono (q := a) sa (by decide) (by decide)) (Fz.mono (q := (b + c)) (Fz.add sb sc) (by decide) (by decide)) (Fz.mono (q := (a + b) + c) (Fz.add (Fz.add sa sb) sc) (by decide) (by decide)) W h g)
  have HK11 := Lib.hid (fun vx vy W (h : Fra W vx ((a + b) + c)) (g : Fra W vy ((a + b) + c)) => law2_equal_any vx vy ((a + b) + c) (Fz.mono (q := (a + b) + c) (Fz.add (Fz.add sa sb) sc) (by decide) (by decide)) W h g)
  have HK12 := Lib.hid (fun vx vy W (h : Fra W vx (a * b)) (g : Fra W vy (c)) => law2_product_any vx vy (a * b) (c) ((a * b) * c) rfl (Fz.mono (q := (a * b)) (Fz.mul sa sb) (by decide) (by decide)) (Fz.mono (q := c) sc (by decide) (by decide)) (Fz.mono (q := (a * b) * c) (Fz.mul (Fz.mul sa sb) sc) (by decide) (by decide)) W h g)
  have HK13 := Lib.hid (fun vx vy W (h : Fra W vx (b)) (g : Fra W vy (c)) => law2_product_any vx vy (b) (c) (b * c) rfl (Fz.mono (q := b) sb (by decide) (by decide)) (Fz.mono (q := c) sc (by decide) (by decide)) (Fz.mono (q := (b * c)) (Fz.mul sb sc) (by decide) (by decide)) W h g)
  have HK14 := Lib.hid (fun vx vy W (h : Fra W vx (a)) (g : Fra W vy (b * c)) => law2_product_any vx vy (a) (b * c) ((a * b) * c) (by grind) (Fz.mono (q := a) sa (by decide) (by decide)) (Fz.mono (q := (b * c)) (Fz.mul sb sc) (by decide) (by decide)) (Fz.mono (q := (a * b) * c) (Fz.mul (Fz.mul sa sb) sc) (by decide) (by decide)) W h g)
  have HK15 := Lib.hid (fun vx vy W (h : Fra W vx ((a * b) * c)) (g : Fra W vy ((a * b) * c)) => law2_equal_any vx vy ((a * b) * c) (Fz.mono (q := (a * b) * c) (Fz.mul (Fz.mul sa sb) sc) (by decide) (by decide)) W h g)
  have HK16 := Lib.hid (fun vx vy W (h : Fra W vx (a)) (g : Fra W vy (b + c)) => law2_product_any vx vy (a) (b + c) (a * (b + c)) rfl (Fz.mono (q := a) sa (by decide) (by decide)) (Fz.mono (q := (b + c)) (Fz.add sb sc) (by decide) (by decide)) (Fz.mono (q := (a * (b + c))) (Fz.mul sa (Fz.add sb sc)) (by decide) (by decide)) W h g)
  have HK17 := Lib.hid (fun vx vy W (h : Fra W vx (a)) (g : Fra W vy (c)) => law2_product_any vx vy (a) (c) (a * c) rfl (Fz.mono (q := a) sa (by decide) (by decide)) (Fz.mono (q := c) sc (by decide) (by decide)) (Fz.mono (q := (a * c)) (Fz.mul sa sc) (by decide) (by decide)) W h g)
  have HK18 := Lib.hid (fun vx vy W (h : Fra W vx (a * b)) (g : Fra W vy (a * c)) => law2_sum_any vx vy (a * b) (a * c) (a * (b + c)) (by grind) (Fz.mono (q := (a * b)) (Fz.mul sa sb) (by decide) (by decide)) (Fz.mono (q := (a * c)) (Fz.mul sa sc) (by decide) (by decide)) (Fz.mono (q := (a * (b + c))) (Fz.mul sa (Fz.add sb sc)) (by decide) (by decide)) W h g)
  have HK19 := Lib.hid (fun vx vy W (h : Fra W vx (a * (b + c))) (g : Fra W vy (a * (b + c))) => law2_equal_any vx vy (a * (b + c)) (Fz.mono (q := (a * (b + c))) (Fz.mul sa (Fz.add sb sc)) (by decide) (by decide)) W h g)
  have HK20 := Lib.hid (fun vx vy W (h : Fra W vx (a)) (g : Fra W vy (0)) => law2_sum_any vx vy (a) (0) (a) (by grind) (Fz.mono (q := a) sa (by decide) (by decide)) (Fz.mono (q := 0) Fz.zero (by decide) (by decide)) (Fz.mono (q := a) sa (by decide) (by decide)) W h g)
  have HK21 := Lib.hid (fun vx vy W (h : Fra W vx (a)) (g : Fra W vy (a)) => law2_equal_any vx vy (a) (Fz.mono (q := a) sa (by decide) (by decide)) W h g)
  have HK22 := Lib.hid (fun vx vy W (h : Fra W vx (a)) (g : Fra W vy (1)) => law2_product_any vx vy (a) (1) (a) (by grind) (Fz.mono (q := a) sa (by decide) (by decide)) (Fz.mono (q := 1) Fz.one (by decide) (by decide)) (Fz.mono (q := a) sa (by decide) (by decide)) W h g)
  have HK23 := Lib.hid (fun vx vy W (h : Fra W vx (a + b)) (g : Fra W vy (b)) => law2_less_any vx vy (a + b) (b) (a) (by grind) (Fz.mono (q := (a + b)) (Fz.add sa sb) (by decide) (by decide)) (Fz.mono (q := b) sb (by decide) (by decide)) (Fz.mono (q := a) sa (by decide) (by decide)) W h g)
  have HK24 := Lib.hid (fun vx vy W (h : Fra W vx (0)) (g : Fra W vy (a)) => law2_less_any vx vy (0) (a) (-a) (by grind) (Fz.mono (q := 0) Fz.zero (by decide) (by decide)) (Fz.mono (q := a) sa (by decide) (by decide)) (Fz.mono (q := -a) (Fz.neg sa) (by decide) (by decide)) W h g)
  have HK25 := Lib.hid (fun vx vy W (h : Fra W vx (a)) (g : Fra W vy (-a)) => law2_sum_any vx vy (a) (-a) (0) (by grind) (Fz.mono (q := a) sa (by decide) (by decide)) (Fz.mono (q := -a) (Fz.neg sa) (by decide) (by decide)) (Fz.mono (q := 0) Fz.zero (by decide) (by decide)) W h g)
  have HK26 := Lib.hid (fun vx vy W (h : Fra W vx (0)) (g : Fra W vy (0)) => law2_equal_any vx vy (0) (Fz.mono (q := 0) Fz.zero (by decide) (by decide)) W h g)
  have HK27 := Lib.hid (fun va W (h : Fra W va a) => frNeg_lit va a (-a) rfl (Fz.mono (q := a) sa (by decide) (by decide)) W h)
  have HK28 := Lib.hid (fun vx vy W (h : Fra W vx (-a)) (g : Fra W vy (-a)) => law2_equal_any vx vy (-a) (Fz.mono (q := -a) (Fz.neg sa) (by decide) (by decide)) W h g)
  have HK29 := Lib.hid (fun vx vy W (h : Fra W vx (a * b)) (g : Fra W vy (b)) => law2_over_any vx vy (a * b) (b) (a) (Rat.mul_div_cancel hb0) hb0 (Fz.mono (q := (a * b)) (Fz.mul sa sb) (by decide) (by decide)) (Fz.mono (q := b) sb (by decide) (by decide)) (Fz.mono (q := a) sa (by decide) (by decide)) W h g)
  have HK30 := Lib.hid (fun vx vy W (h : Fra W vx (a)) (g : Fra W vy (b)) => law2_over_any vx vy (a) (b) (a / b) rfl hb0 (Fz.mono (q := a) sa (by decide) (by decide)) (Fz.mono (q := b) sb (by decide) (by decide)) (Fz.mono (q := (a / b)) (Fz.div sa sb hb0) (by decide) (by decide)) W h g)
  have HK31 := Lib.hid (fun vx vy W (h : Fra W vx (a / b)) (g : Fra W vy (b)) => law2_product_any vx vy (a / b) (b) (a) (Rat.div_mul_cancel hb0) (Fz.mono (q := (a / b)) (Fz.div sa sb hb0) (by decide) (by decide)) (Fz.mono (q := b) sb (by decide) (by decide)) (Fz.mono (q := a) sa (by decide) (by decide)) W h g)
  have HK32 := Lib.hid (fun vx vy W (h : Fra W vx (1)) (g : Fra W vy (b)) => law2_over_any vx vy (1) (b) (1 / b) rfl hb0 (Fz.mono (q := 1) Fz.one (by decide) (by decide)) (Fz.mono (q := b) sb (by decide) (by decide)) (Fz.mono (q := (1 / b)) (Fz.div Fz.one sb hb0) (by decide) (by decide)) W h g)
  have HK33 := Lib.hid (fun vx vy W (h : Fra W vx (b)) (g : Fra W vy (1 / b)) => law2_product_any vx vy (b) (1 / b) (1) (by rw [Rat.mul_comm]; exact Rat.div_mul_cancel hb0) (Fz.mono (q := b) sb (by decide) (by decide)) (Fz.mono (q := (1 / b)) (Fz.div Fz.one sb hb0) (by decide) (by decide)) (Fz.mono (q := 1) Fz.one (by decide) (by decide)) W h g)
  have HK34 := Lib.hid (fun vx vy W (h : Fra W vx (1)) (g : Fra W vy (1)) => law2_equal_any vx vy (1) (Fz.mono (q := 1) Fz.one (by decide) (by decide)) W h g)
  have hB := Below.refl w.heap.size w
  obtain ⟨al, xia, hN⟩ := mk hB #[.bool bia, .slice aia kia cia, .bool dia, .slice eia lia mia] 26
  replace ia := ia.on al
  replace ib := ib.on al
  replace ic := ic.on al
  replace hB := hN
  clear al hN
  try simp only [World.size_alloc] at xia
  obtain ⟨al, xib, hN⟩ := mk hB #[.bool bib, .slice aib kib cib, .bool dib, .slice eib lib mib] 26
  replace xia := xia.on al
  replace ia := ia.on al
  replace ib := ib.on al
  replace ic := ic.on al
  replace hB := hN
  clear al hN
  try simp only [World.size_alloc] at xib
  obtain ⟨al, xic, hN⟩ := mk hB #[.bool bic, .slice aic kic cic, .bool dic, .slice eic lic mic] 26
  replace xia := xia.on al
  replace xib := xib.on al
  replace ia := ia.on al
  replace ib := ib.on al
  replace ic := ic.on al
  replace hB := hN
  clear al hN
  try simp only [World.size_alloc] at xic
  go_enter Tryz.func7, Tryz.ntmps7
  go_wp2_with fail
  refine (law2_awake_any _).mono ?_
  rintro e w1 ⟨rfl, hb⟩
  replace xia := xia.on hb
  replace xib := xib.on hb
  replace xic := xic.on hb
  replace ia := ia.on hb
  replace ib := ib.on hb
  replace ic := ic.on hb
  have hz1 := hb.size
  try simp at hz1
  replace hB := hB.trans (hb.mono hB.size)
  clear hb
  have pia := xia.all4
  have pib := xib.all4
  have pic := xic.all4
  have ltia := xia.lt
  have ltib := xib.lt
  have ltic := xic.lt
  go_wp2_with fail
  clear ltia
  clear ltib
  clear ltic
  clear pia pib pic
  have hb := ((Below.refl w1.heap.size w1).alloc (Nat.le_refl _) (.cells #[.bool bia, .slice aia kia cia, .bool dia, .slice eia lia mia, .bool bib, .slice aib kib cib, .bool dib, .slice eib lib mib, .bool bic, .slice aic kic cic, .bool dic, .slice eic lic mic] 26))
  have xrow : Bk _ w1.heap.size #[.bool bia, .slice aia kia cia, .bool dia, .slice eia lia mia, .bool bib, .slice aib kib cib, .bool dib, .slice eib lib mib, .bool bic, .slice aic kic cic, .bool dic, .slice eic lic mic] 26 := (Bk.new w1 #[.bool bia, .slice aia kia cia, .bool dia, .slice eia lia mia, .bool bib, .slice aib kib cib, .bool dib, .slice eib lib mib, .bool bic, .slice aic kic cic, .bool dic, .slice eic lic mic] 26)
  replace xia := xia.on hb
  replace xib := xib.on hb
  replace xic := xic.on hb
  replace ia := ia.on hb
  replace ib := ib.on hb
  replace ic := ic.on hb
  replace hB := hB.trans (hb.mono hB.size)
  clear hb
  have rw0 := xrow.cell 0
  have rw1 := xrow.cell 1
  have rw2 := xrow.cell 2
  have rw3 := xrow.cell 3
  have rw4 := xrow.cell 4
  have rw5 := xrow.cell 5
  have rw6 := xrow.cell 6
  have rw7 := xrow.cell 7
  have rw8 := xrow.cell 8
  have rw9 := xrow.cell 9
  have rw10 := xrow.cell 10
  have rw11 := xrow.cell 11
  simp only [List.getElem?_toArray, List.getElem?_cons_zero, List.getElem?_cons_succ] at rw0 rw1 rw2 rw3 rw4 rw5 rw6 rw7 rw8 rw9 rw10 rw11
  refine (usable3_fra w1.heap.size a b c bia aia kia cia dia eia lia mia bib aib kib cib dib eib lib mib bic aic kic cic dic eic lic mic _ rw0 rw1 rw2 rw3 rw4 rw5 rw6 rw7 rw8 rw9 rw10 rw11 ia ib ic sa sb sc).mono ?_
  rintro e w2 ⟨rfl, hb⟩
  clear xrow rw0 rw1 rw2 rw3 rw4 rw5 rw6 rw7 rw8 rw9 rw10 rw11
  replace xia := xia.on hb
  replace xib := xib.on hb
  replace xic := xic.on hb
  replace ia := ia.on hb
  replace ib := ib.on hb
  replace ic := ic.on hb
  replace hB := hB.trans (hb.mono hB.size)
  clear hb
  have pia := xia.all4
  have pib := xib.all4
  have pic := xic.all4
  have ltia := xia.lt
  have ltib := xib.lt
  have ltic := xic.lt
  go_wp2_with fail
  clear ltia
  clear ltib
  clear ltic
  clear pia pib pic
  refine (HK0.out _).mono ?_
  rintro e w3 ⟨⟨vgz, rfl, gz⟩, hb⟩
  replace xia := xia.on hb
  replace xib := xib.on hb
  replace xic := xic.on hb
  replace ia := ia.on hb
  replace ib := ib.on hb
  replace ic := ic.on hb
  have hz3 := hb.size
  try simp at hz3
  replace hB := hB.trans (hb.mono hB.size)
  clear hb
  go_wp2_with fail
  refine (HK1.out _).mono ?_
  rintro e w4 ⟨⟨vgo, rfl, go⟩, hb⟩
  replace xia := xia.on hb
  replace xib := xib.on hb
  replace xic := xic.on hb
  replace ia := ia.on hb
  replace ib := ib.on hb
  replace ic := ic.on hb
  replace gz := gz.on hb
  have hz4 := hb.size
  try simp at hz4
  replace hB := hB.trans (hb.mono hB.size)
  clear hb
  obtain ⟨bz, az, kz, cz, dz, ez, lz, mz, rfl⟩ := gz.opened
  obtain ⟨bu, au, ku, cu, du, eu, lu, mu, rfl⟩ := go.opened
  go_wp2_with fail
  have xq := Bk.new (w4.alloc (.cells #[.bool bz, .slice az kz cz, .bool dz, .slice ez lz mz] 26)) #[.bool bu, .slice au ku cu, .bool du, .slice eu lu mu] 26
  rw [World.size_alloc] at xq
  have hb := (((Below.refl w4.heap.size w4).alloc (Nat.le_refl _) (.cells #[.bool bz, .slice az kz cz, .bool dz, .slice ez lz mz] 26)).alloc (by simp) (.cells #[.bool bu, .slice au ku cu, .bool du, .slice eu lu mu] 26))
  have xzero : Bk _ (w4.heap.size) #[.bool bz, .slice az kz cz, .bool dz, .slice ez lz mz] 26 := (Bk.new w4 #[.bool bz, .slice az kz cz, .bool dz, .slice ez lz mz] 26).alloc (.cells #[.bool bu, .slice au ku cu, .bool du, .slice eu lu mu] 26)
  have xone : Bk _ (w4.heap.size + 1) #[.bool bu, .slice au ku cu, .bool du, .slice eu lu mu] 26 := xq
  clear xq
  replace xia := xia.on hb
  replace xib := xib.on hb
  replace xic := xic.on hb
  replace ia := ia.on hb
  replace ib := ib.on hb
  replace ic := ic.on hb
  replace gz := gz.on hb
  replace go := go.on hb
  replace hB := hB.trans (hb.mono hB.size)
  clear hb
  obtain ⟨wa, hwa⟩ : ∃ W, W = ((w4.alloc (.cells #[.bool bz, .slice az kz cz, .bool dz, .slice ez lz mz] 26)).alloc (.cells #[.bool bu, .slice au ku cu, .bool du, .slice eu lu mu] 26)) := ⟨_, rfl⟩
  rw [← hwa] at hB xia xib xic xzero xone ia ib ic gz go ⊢
  clear hwa
  have qia := xia.lt
  have qib := xib.lt
  have qic := xic.lt
  obtain ⟨gia0, gia1, gia2, gia3⟩ := xia.cells4
  obtain ⟨gib0, gib1, gib2, gib3⟩ := xib.cells4
  obtain ⟨gic0, gic1, gic2, gic3⟩ := xic.cells4
  refine wp_region_noPanic ?_
  refine wp_region_held_drew (S := (fun w' => (w'.cell? ⟨w.heap.size, 0, none⟩ = some (.bool bia) ∧ w'.cell? ⟨w.heap.size, 1, none⟩ = some (.slice aia kia cia) ∧ w'.cell? ⟨w.heap.size, 2, none⟩ = some (.bool dia) ∧ w'.cell? ⟨w.heap.size, 3, none⟩ = some (.slice eia lia mia)) ∧ (w'.cell? ⟨w.heap.size + 1, 0, none⟩ = some (.bool bib) ∧ w'.cell? ⟨w.heap.size + 1, 1, none⟩ = some (.slice aib kib cib) ∧ w'.cell? ⟨w.heap.size + 1, 2, none⟩ = some (.bool dib) ∧ w'.cell? ⟨w.heap.size + 1, 3, none⟩ = some (.slice eib lib mib)) ∧ w'.cell? ⟨w.heap.size + 1 + 1, 0, none⟩ = some (.bool bic) ∧ w'.cell? ⟨w.heap.size + 1 + 1, 1, none⟩ = some (.slice aic kic cic) ∧ w'.cell? ⟨w.heap.size + 1 + 1, 2, none⟩ = some (.bool dic) ∧ w'.cell? ⟨w.heap.size + 1 + 1, 3, none⟩ = some (.slice eic lic mic))) (by kernel_rfl) ⟨⟨gia0, gia1, gia2, gia3⟩, ⟨gib0, gib1, gib2, gib3⟩, ⟨gic0, gic1, gic2, gic3⟩⟩ (fun hR0 => ?_)
  change wpAnyH _ _ _ _ _ 46 #[false, false, false, false, false, false, false, false, false, false, false, false, false, false, false, false, false, false, false, false, false, false, false, false, false, false, false, false, false, false, false, false, false, false, false, false, false, false, false, false, false, false, false, false, false, false] _ _
  clear gia0 gia1 gia2 gia3 gib0 gib1 gib2 gib3 gic0 gic1 gic2 gic3
  refine tk (i := 0) (v := ?_) rfl (by kernel_rfl) (fun _ _ _ h => h) (by rfl) ?_ (by assumption) ?_
  rotate_left 1
  · (intro w hSw; (try dsimp only at hSw); go_simp <;> (with_reducible rfl))
  (try simp only [Act.put, List.setIfInBounds_toArray, List.set])
  refine tk (i := 1) (v := ?_) rfl (by kernel_rfl) (fun _ _ _ h => h) (by rfl) ?_ (by assumption) ?_
  rotate_left 1
  · (intro w hSw; (try dsimp only at hSw); go_simp <;> (with_reducible rfl))
  (try simp only [Act.put, List.setIfInBounds_toArray, List.set])
  refine tk (i := 3) (v := ?_) rfl (by kernel_rfl) (fun _ _ _ h => h) (by rfl) ?_ (by assumption) ?_
  rotate_left 1
  · (intro w hSw; (try dsimp only at hSw); go_simp <;> (with_reducible rfl))
  (try simp only [Act.put, List.setIfInBounds_toArray, List.set])
  refine tk (i := 4) (v := ?_) rfl (by kernel_rfl) (fun _ _ _ h => h) (by rfl) ?_ (by assumption) ?_
  rotate_left 1
  · (intro w hSw; (try dsimp only at hSw); go_simp <;> (with_reducible rfl))
  (try simp only [Act.put, List.setIfInBounds_toArray, List.set])
  refine rd1 (i := 2) (by kernel_rfl) rfl (fun K hK => ?_)
  go_simp
  go_at_call 44; have hBd := hB.drew; refine (HK2.out _ _ _ (by exact ia) (by exact ib)).mono ?_; rintro e w5 ⟨⟨vg1, rfl, g1⟩, hb⟩; replace hb := (Below.refl wa.heap.size wa).drew.trans hb; replace xia := xia.on hb; replace xib := xib.on hb; replace xic := xic.on hb; replace xzero := xzero.on hb; replace xone := xone.on hb; replace ia := ia.on hb; replace ib := ib.on hb; replace ic := ic.on hb; replace gz := gz.on hb; replace go := go.on hb; replace hB := hB.trans (hb.mono hB.size); have hz5 := hb.size
  (try go_wp2_with fail)
  refine hK.out _ _ (⟨keep4 hb qia hR0.1, keep4 hb qib hR0.2.1, keep4 hb qic hR0.2.2⟩) (fun hR1 => ?_)
  clear hK K hR0
  (first | ((fail_if_success (unfold Act.put)); (try simp only [List.setIfInBounds_toArray, List.set])) | (try simp only [Act.put, List.setIfInBounds_toArray, List.set]))
  replace qia := Nat.lt_of_lt_of_le qia hz5
  replace qib := Nat.lt_of_lt_of_le qib hz5
  replace qic := Nat.lt_of_lt_of_le qic hz5
  clear hb hBd
  refine rd1 (i := 5) (by kernel_rfl) rfl (fun K hK => ?_)
  go_simp
  go_at_call 44; have hBd := hB; refine (HK3.out _ _ _ ib ia).mono ?_; rintro e w6 ⟨⟨vg2, rfl, g2⟩, hb⟩; replace xia := xia.on hb; replace xib := xib.on hb; replace xic := xic.on hb; replace xzero := xzero.on hb; replace xone := xone.on hb; replace ia := ia.on hb; replace ib := ib.on hb; replace ic := ic.on hb; replace gz := gz.on hb; replace go := go.on hb; replace g1 := g1.on hb; replace hB := hB.trans (hb.mono hB.size); have hz6 := hb.size
  (try go_wp2_with fail)
  refine hK.out _ _ (⟨keep4 hb qia hR1.1, keep4 hb qib hR1.2.1, keep4 hb qic hR1.2.2⟩) (fun hR2 => ?_)
  clear hK K hR1
  (first | ((fail_if_success (unfold Act.put)); (try simp only [List.setIfInBounds_toArray, List.set])) | (try simp only [Act.put, List.setIfInBounds_toArray, List.set]))
  replace qia := Nat.lt_of_lt_of_le qia hz6
  replace qib := Nat.lt_of_lt_of_le qib hz6
  replace qic := Nat.lt_of_lt_of_le qic hz6
  clear hb hBd
  refine rd1 (i := 6) (by kernel_rfl) rfl (fun K hK => ?_)
  go_simp
  go_at_call 43; have hBd := hB; refine (HK4.out _ _ _ g1 g2).mono ?_; rintro e w7 ⟨rfl, hb⟩; replace xia := xia.on hb; replace xib := xib.on hb; replace xic := xic.on hb; replace xzero := xzero.on hb; replace xone := xone.on hb; replace ia := ia.on hb; replace ib := ib.on hb; replace ic := ic.on hb; replace gz := gz.on hb; replace go := go.on hb; replace g1 := g1.on hb; replace g2 := g2.on hb; replace hB := hB.trans (hb.mono hB.size); have hz7 := hb.size
  (try go_wp2_with fail)
  refine hK.out _ _ (⟨keep4 hb qia hR2.1, keep4 hb qib hR2.2.1, keep4 hb qic hR2.2.2⟩) (fun hR3 => ?_)
  clear hK K hR2
  (first | ((fail_if_success (unfold Act.put)); (try simp only [List.setIfInBounds_toArray, List.set])) | (try simp only [Act.put, List.setIfInBounds_toArray, List.set]))
  replace qia := Nat.lt_of_lt_of_le qia hz7
  replace qib := Nat.lt_of_lt_of_le qib hz7
  replace qic := Nat.lt_of_lt_of_le qic hz7
  clear hb hBd
  refine tk (i := 7) (v := ?_) rfl (by kernel_rfl) (fun _ _ _ h => h) (by rfl) ?_ (by assumption) ?_
  rotate_left 1
  · (intro w hSw; (try dsimp only at hSw); go_simp <;> (with_reducible rfl))
  (try simp only [Act.put, List.setIfInBounds_toArray, List.set])
  refine tk (i := 8) (v := ?_) rfl (by kernel_rfl) (fun _ _ _ h => h) (by rfl) ?_ (by assumption) ?_
  rotate_left 1
  · (intro w hSw; (try dsimp only at hSw); go_simp <;> (with_reducible rfl))
  (try simp only [Act.put, List.setIfInBounds_toArray, List.set])
  refine tk (i := 9) (v := ?_) rfl (by kernel_rfl) (fun _ _ _ h => h) (by rfl) ?_ (by assumption) ?_
  rotate_left 1
  · (intro w hSw; (try dsimp only at hSw); go_simp <;> (with_reducible rfl))
  (try simp only [Act.put, List.setIfInBounds_toArray, List.set])
  refine tk (i := 10) (v := ?_) rfl (by kernel_rfl) (fun _ _ _ h => h) (by rfl) ?_ (by assumption) ?_
  rotate_left 1
  · (intro w hSw; (try dsimp only at hSw); go_simp <;> (with_reducible rfl))
  (try simp only [Act.put, List.setIfInBounds_toArray, List.set])
  refine tk (i := 12) (v := ?_) rfl (by kernel_rfl) (fun _ _ _ h => h) (by rfl) ?_ (by assumption) ?_
  rotate_left 1
  · (intro w hSw; (try dsimp only at hSw); go_simp <;> (with_reducible rfl))
  (try simp only [Act.put, List.setIfInBounds_toArray, List.set])
  refine tk (i := 13) (v := ?_) rfl (by kernel_rfl) (fun _ _ _ h => h) (by rfl) ?_ (by assumption) ?_
  rotate_left 1
  · (intro w hSw; (try dsimp only at hSw); go_simp <;> (with_reducible rfl))
  (try simp only [Act.put, List.setIfInBounds_toArray, List.set])
  refine rd1 (i := 11) (by kernel_rfl) rfl (fun K hK => ?_)
  go_simp
  go_at_call 45; have hBd := hB; refine (HK5.out _ _ _ ia ib).mono ?_; rintro e w8 ⟨⟨vg3, rfl, g3⟩, hb⟩; replace xia := xia.on hb; replace xib := xib.on hb; replace xic := xic.on hb; replace xzero := xzero.on hb; replace xone := xone.on hb; replace ia := ia.on hb; replace ib := ib.on hb; replace ic := ic.on hb; replace gz := gz.on hb; replace go := go.on hb; replace g1 := g1.on hb; replace g2 := g2.on hb; replace hB := hB.trans (hb.mono hB.size); have hz8 := hb.size
  (try go_wp2_with fail)
  refine hK.out _ _ (⟨keep4 hb qia hR3.1, keep4 hb qib hR3.2.1, keep4 hb qic hR3.2.2⟩) (fun hR4 => ?_)
  clear hK K hR3
  (first | ((fail_if_success (unfold Act.put)); (try simp only [List.setIfInBounds_toArray, List.set])) | (try simp only [Act.put, List.setIfInBounds_toArray, List.set]))
  replace qia := Nat.lt_of_lt_of_le qia hz8
  replace qib := Nat.lt_of_lt_of_le qib hz8
  replace qic := Nat.lt_of_lt_of_le qic hz8
  clear hb hBd
  refine rd1 (i := 14) (by kernel_rfl) rfl (fun K hK => ?_)
  go_simp
  go_at_call 45; have hBd := hB; refine (HK6.out _ _ _ ib ia).mono ?_; rintro e w9 ⟨⟨vg4, rfl, g4⟩, hb⟩; replace xia := xia.on hb; replace xib := xib.on hb; replace xic := xic.on hb; replace xzero := xzero.on hb; replace xone := xone.on hb; replace ia := ia.on hb; replace ib := ib.on hb; replace ic := ic.on hb; replace gz := gz.on hb; replace go := go.on hb; replace g1 := g1.on hb; replace g2 := g2.on hb; replace g3 := g3.on hb; replace hB := hB.trans (hb.mono hB.size); have hz9 := hb.size
  (try go_wp2_with fail)
  refine hK.out _ _ (⟨keep4 hb qia hR4.1, keep4 hb qib hR4.2.1, keep4 hb qic hR4.2.2⟩) (fun hR5 => ?_)
  clear hK K hR4
  (first | ((fail_if_success (unfold Act.put)); (try simp only [List.setIfInBounds_toArray, List.set])) | (try simp only [Act.put, List.setIfInBounds_toArray, List.set]))
  replace qia := Nat.lt_of_lt_of_le qia hz9
  replace qib := Nat.lt_of_lt_of_le qib hz9
  replace qic := Nat.lt_of_lt_of_le qic hz9
  clear hb hBd
  refine rd1 (i := 15) (by kernel_rfl) rfl (fun K hK => ?_)
  go_simp
  go_at_call 43; have hBd := hB; refine (HK7.out _ _ _ g3 g4).mono ?_; rintro e w10 ⟨rfl, hb⟩; replace xia := xia.on hb; replace xib := xib.on hb; replace xic := xic.on hb; replace xzero := xzero.on hb; replace xone := xone.on hb; replace ia := ia.on hb; replace ib := ib.on hb; replace ic := ic.on hb; replace gz := gz.on hb; replace go := go.on hb; replace g1 := g1.on hb; replace g2 := g2.on hb; replace g3 := g3.on hb; replace g4 := g4.on hb; replace hB := hB.trans (hb.mono hB.size); have hz10 := hb.size
  (try go_wp2_with fail)
  refine hK.out _ _ (⟨keep4 hb qia hR5.1, keep4 hb qib hR5.2.1, keep4 hb qic hR5.2.2⟩) (fun hR6 => ?_)
  clear hK K hR5
  (first | ((fail_if_success (unfold Act.put)); (try simp only [List.setIfInBounds_toArray, List.set])) | (try simp only [Act.put, List.setIfInBounds_toArray, List.set]))
  replace qia := Nat.lt_of_lt_of_le qia hz10
  replace qib := Nat.lt_of_lt_of_le qib hz10
  replace qic := Nat.lt_of_lt_of_le qic hz10
  clear hb hBd
  refine tk (i := 16) (v := ?_) rfl (by kernel_rfl) (fun _ _ _ h => h) (by rfl) ?_ (by assumption) ?_
  rotate_left 1
  · (intro w hSw; (try dsimp only at hSw); go_simp <;> (with_reducible rfl))
  (try simp only [Act.put, List.setIfInBounds_toArray, List.set])
  refine tk (i := 17) (v := ?_) rfl (by kernel_rfl) (fun _ _ _ h => h) (by rfl) ?_ (by assumption) ?_
  rotate_left 1
  · (intro w hSw; (try dsimp only at hSw); go_simp <;> (with_reducible rfl))
  (try simp only [Act.put, List.setIfInBounds_toArray, List.set])
  refine tk (i := 18) (v := ?_) rfl (by kernel_rfl) (fun _ _ _ h => h) (by rfl) ?_ (by assumption) ?_
  rotate_left 1
  · (intro w hSw; (try dsimp only at hSw); go_simp <;> (with_reducible rfl))
  (try simp only [Act.put, List.setIfInBounds_toArray, List.set])
  refine tk (i := 19) (v := ?_) rfl (by kernel_rfl) (fun _ _ _ h => h) (by rfl) ?_ (by assumption) ?_
  rotate_left 1
  · (intro w hSw; (try dsimp only at hSw); go_simp <;> (with_reducible rfl))
  (try simp only [Act.put, List.setIfInBounds_toArray, List.set])
  refine tk (i := 20) (v := ?_) rfl (by kernel_rfl) (fun _ _ _ h => h) (by rfl) ?_ (by assumption) ?_
  rotate_left 1
  · (intro w hSw; (try dsimp only at hSw); go_simp <;> (with_reducible rfl))
  (try simp only [Act.put, List.setIfInBounds_toArray, List.set])
  refine tk (i := 22) (v := ?_) rfl (by kernel_rfl) (fun _ _ _ h => h) (by rfl) ?_ (by assumption) ?_
  rotate_left 1
  · (intro w hSw; (try dsimp only at hSw); go_simp <;> (with_reducible rfl))
  (try simp only [Act.put, List.setIfInBounds_toArray, List.set])
  refine tk (i := 24) (v := ?_) rfl (by kernel_rfl) (fun _ _ _ h => h) (by rfl) ?_ (by assumption) ?_
  rotate_left 1
  · (intro w hSw; (try dsimp only at hSw); go_simp <;> (with_reducible rfl))
  (try simp only [Act.put, List.setIfInBounds_toArray, List.set])
  refine tk (i := 25) (v := ?_) rfl (by kernel_rfl) (fun _ _ _ h => h) (by rfl) ?_ (by assumption) ?_
  rotate_left 1
  · (intro w hSw; (try dsimp only at hSw); go_simp <;> (with_reducible rfl))
  (try simp only [Act.put, List.setIfInBounds_toArray, List.set])
  refine tk (i := 26) (v := ?_) rfl (by kernel_rfl) (fun _ _ _ h => h) (by rfl) ?_ (by assumption) ?_
  rotate_left 1
  · (intro w hSw; (try dsimp only at hSw); go_simp <;> (with_reducible rfl))
  (try simp only [Act.put, List.setIfInBounds_toArray, List.set])
  refine rd1 (i := 21) (by kernel_rfl) rfl (fun K hK => ?_)
  go_simp
  go_at_call 44; have hBd := hB; refine (HK2.out _ _ _ ia ib).mono ?_; rintro e w11 ⟨⟨vg5, rfl, g5⟩, hb⟩; replace xia := xia.on hb; replace xib := xib.on hb; replace xic := xic.on hb; replace xzero := xzero.on hb; replace xone := xone.on hb; replace ia := ia.on hb; replace ib := ib.on hb; replace ic := ic.on hb; replace gz := gz.on hb; replace go := go.on hb; replace g1 := g1.on hb; replace g2 := g2.on hb; replace g3 := g3.on hb; replace g4 := g4.on hb; replace hB := hB.trans (hb.mono hB.size); have hz11 := hb.size
  (try go_wp2_with fail)
  refine hK.out _ _ (⟨keep4 hb qia hR6.1, keep4 hb qib hR6.2.1, keep4 hb qic hR6.2.2⟩) (fun hR7 => ?_)
  clear hK K hR6
  (first | ((fail_if_success (unfold Act.put)); (try simp only [List.setIfInBounds_toArray, List.set])) | (try simp only [Act.put, List.setIfInBounds_toArray, List.set]))
  replace qia := Nat.lt_of_lt_of_le qia hz11
  replace qib := Nat.lt_of_lt_of_le qib hz11
  replace qic := Nat.lt_of_lt_of_le qic hz11
  clear hb hBd
  refine rd1 (i := 23) (by kernel_rfl) rfl (fun K hK => ?_)
  go_simp
  go_at_call 44; have hBd := hB; refine (HK8.out _ _ _ g5 ic).mono ?_; rintro e w12 ⟨⟨vg6, rfl, g6⟩, hb⟩; replace xia := xia.on hb; replace xib := xib.on hb; replace xic := xic.on hb; replace xzero := xzero.on hb; replace xone := xone.on hb; replace ia := ia.on hb; replace ib := ib.on hb; replace ic := ic.on hb; replace gz := gz.on hb; replace go := go.on hb; replace g1 := g1.on hb; replace g2 := g2.on hb; replace g3 := g3.on hb; replace g4 := g4.on hb; replace g5 := g5.on hb; replace hB := hB.trans (hb.mono hB.size); have hz12 := hb.size
  (try go_wp2_with fail)
  refine hK.out _ _ (⟨keep4 hb qia hR7.1, keep4 hb qib hR7.2.1, keep4 hb qic hR7.2.2⟩) (fun hR8 => ?_)
  clear hK K hR7
  (first | ((fail_if_success (unfold Act.put)); (try simp only [List.setIfInBounds_toArray, List.set])) | (try simp only [Act.put, List.setIfInBounds_toArray, List.set]))
  replace qia := Nat.lt_of_lt_of_le qia hz12
  replace qib := Nat.lt_of_lt_of_le qib hz12
  replace qic := Nat.lt_of_lt_of_le qic hz12
  clear hb hBd
  refine rd1 (i := 27) (by kernel_rfl) rfl (fun K hK => ?_)
  go_simp
  go_at_call 44; have hBd := hB; refine (HK9.out _ _ _ ib ic).mono ?_; rintro e w13 ⟨⟨vg7, rfl, g7⟩, hb⟩; replace xia := xia.on hb; replace xib := xib.on hb; replace xic := xic.on hb; replace xzero := xzero.on hb; replace xone := xone.on hb; replace ia := ia.on hb; replace ib := ib.on hb; replace ic := ic.on hb; replace gz := gz.on hb; replace go := go.on hb; replace g1 := g1.on hb; replace g2 := g2.on hb; replace g3 := g3.on hb; replace g4 := g4.on hb; replace g5 := g5.on hb; replace g6 := g6.on hb; replace hB := hB.trans (hb.mono hB.size); have hz13 := hb.size
  (try go_wp2_with fail)
  refine hK.out _ _ (⟨keep4 hb qia hR8.1, keep4 hb qib hR8.2.1, keep4 hb qic hR8.2.2⟩) (fun hR9 => ?_)
  clear hK K hR8
  (first | ((fail_if_success (unfold Act.put)); (try simp only [List.setIfInBounds_toArray, List.set])) | (try simp only [Act.put, List.setIfInBounds_toArray, List.set]))
  replace qia := Nat.lt_of_lt_of_le qia hz13
  replace qib := Nat.lt_of_lt_of_le qib hz13
  replace qic := Nat.lt_of_lt_of_le qic hz13
  clear hb hBd
  refine rd1 (i := 28) (by kernel_rfl) rfl (fun K hK => ?_)
  go_simp
  go_at_call 44; have hBd := hB; refine (HK10.out _ _ _ ia g7).mono ?_; rintro e w14 ⟨⟨vg8, rfl, g8⟩, hb⟩; replace xia := xia.on hb; replace xib := xib.on hb; replace xic := xic.on hb; replace xzero := xzero.on hb; replace xone := xone.on hb; replace ia := ia.on hb; replace ib := ib.on hb; replace ic := ic.on hb; replace gz := gz.on hb; replace go := go.on hb; replace g1 := g1.on hb; replace g2 := g2.on hb; replace g3 := g3.on hb; replace g4 := g4.on hb; replace g5 := g5.on hb; replace g6 := g6.on hb; replace g7 := g7.on hb; replace hB := hB.trans (hb.mono hB.size); have hz14 := hb.size
  (try go_wp2_with fail)
  refine hK.out _ _ (⟨keep4 hb qia hR9.1, keep4 hb qib hR9.2.1, keep4 hb qic hR9.2.2⟩) (fun hR10 => ?_)
  clear hK K hR9
  (first | ((fail_if_success (unfold Act.put)); (try simp only [List.setIfInBounds_toArray, List.set])) | (try simp only [Act.put, List.setIfInBounds_toArray, List.set]))
  replace qia := Nat.lt_of_lt_of_le qia hz14
  replace qib := Nat.lt_of_lt_of_le qib hz14
  replace qic := Nat.lt_of_lt_of_le qic hz14
  clear hb hBd
  refine rd1 (i := 29) (by kernel_rfl) rfl (fun K hK => ?_)
  go_simp
  go_at_call 43; have hBd := hB; refine (HK11.out _ _ _ g6 g8).mono ?_; rintro e w15 ⟨rfl, hb⟩; replace xia := xia.on hb; replace xib := xib.on hb; replace xic := xic.on hb; replace xzero := xzero.on hb; replace xone := xone.on hb; replace ia := ia.on hb; replace ib := ib.on hb; replace ic := ic.on hb; replace gz := gz.on hb; replace go := go.on hb; replace g1 := g1.on hb; replace g2 := g2.on hb; replace g3 := g3.on hb; replace g4 := g4.on hb; replace g5 := g5.on hb; replace g6 := g6.on hb; replace g7 := g7.on hb; replace g8 := g8.on hb; replace hB := hB.trans (hb.mono hB.size); have hz15 := hb.size
  (try go_wp2_with fail)
  refine hK.out _ _ (⟨keep4 hb qia hR10.1, keep4 hb qib hR10.2.1, keep4 hb qic hR10.2.2⟩) (fun hR11 => ?_)
  clear hK K hR10
  (first | ((fail_if_success (unfold Act.put)); (try simp only [List.setIfInBounds_toArray, List.set])) | (try simp only [Act.put, List.setIfInBounds_toArray, List.set]))
  replace qia := Nat.lt_of_lt_of_le qia hz15
  replace qib := Nat.lt_of_lt_of_le qib hz15
  replace qic := Nat.lt_of_lt_of_le qic hz15
  clear hb hBd
  refine tk (i := 30) (v := ?_) rfl (by kernel_rfl) (fun _ _ _ h => h) (by rfl) ?_ (by assumption) ?_
  rotate_left 1
  · (intro w hSw; (try dsimp only at hSw); go_simp <;> (with_reducible rfl))
  (try simp only [Act.put, List.setIfInBounds_toArray, List.set])
  refine tk (i := 31) (v := ?_) rfl (by kernel_rfl) (fun _ _ _ h => h) (by rfl) ?_ (by assumption) ?_
  rotate_left 1
  · (intro w hSw; (try dsimp only at hSw); go_simp <;> (with_reducible rfl))
  (try simp only [Act.put, List.setIfInBounds_toArray, List.set])
  refine tk (i := 32) (v := ?_) rfl (by kernel_rfl) (fun _ _ _ h => h) (by rfl) ?_ (by assumption) ?_
  rotate_left 1
  · (intro w hSw; (try dsimp only at hSw); go_simp <;> (with_reducible rfl))
  (try simp only [Act.put, List.setIfInBounds_toArray, List.set])
  refine tk (i := 33) (v := ?_) rfl (by kernel_rfl) (fun _ _ _ h => h) (by rfl) ?_ (by assumption) ?_
  rotate_left 1
  · (intro w hSw; (try dsimp only at hSw); go_simp <;> (with_reducible rfl))
  (try simp only [Act.put, List.setIfInBounds_toArray, List.set])
  refine tk (i := 34) (v := ?_) rfl (by kernel_rfl) (fun _ _ _ h => h) (by rfl) ?_ (by assumption) ?_
  rotate_left 1
  · (intro w hSw; (try dsimp only at hSw); go_simp <;> (with_reducible rfl))
  (try simp only [Act.put, List.setIfInBounds_toArray, List.set])
  refine tk (i := 36) (v := ?_) rfl (by kernel_rfl) (fun _ _ _ h => h) (by rfl) ?_ (by assumption) ?_
  rotate_left 1
  · (intro w hSw; (try dsimp only at hSw); go_simp <;> (with_reducible rfl))
  (try simp only [Act.put, List.setIfInBounds_toArray, List.set])
  refine tk (i := 38) (v := ?_) rfl (by kernel_rfl) (fun _ _ _ h => h) (by rfl) ?_ (by assumption) ?_
  rotate_left 1
  · (intro w hSw; (try dsimp only at hSw); go_simp <;> (with_reducible rfl))
  (try simp only [Act.put, List.setIfInBounds_toArray, List.set])
  refine tk (i := 39) (v := ?_) rfl (by kernel_rfl) (fun _ _ _ h => h) (by rfl) ?_ (by assumption) ?_
  rotate_left 1
  · (intro w hSw; (try dsimp only at hSw); go_simp <;> (with_reducible rfl))
  (try simp only [Act.put, List.setIfInBounds_toArray, List.set])
  refine tk (i := 40) (v := ?_) rfl (by kernel_rfl) (fun _ _ _ h => h) (by rfl) ?_ (by assumption) ?_
  rotate_left 1
  · (intro w hSw; (try dsimp only at hSw); go_simp <;> (with_reducible rfl))
  (try simp only [Act.put, List.setIfInBounds_toArray, List.set])
  refine rd1 (i := 35) (by kernel_rfl) rfl (fun K hK => ?_)
  go_simp
  go_at_call 45; have hBd := hB; refine (HK5.out _ _ _ ia ib).mono ?_; rintro e w16 ⟨⟨vh1, rfl, h1⟩, hb⟩; replace xia := xia.on hb; replace xib := xib.on hb; replace xic := xic.on hb; replace xzero := xzero.on hb; replace xone := xone.on hb; replace ia := ia.on hb; replace ib := ib.on hb; replace ic := ic.on hb; replace gz := gz.on hb; replace go := go.on hb; replace g1 := g1.on hb; replace g2 := g2.on hb; replace g3 := g3.on hb; replace g4 := g4.on hb; replace g5 := g5.on hb; replace g6 := g6.on hb; replace g7 := g7.on hb; replace g8 := g8.on hb; replace hB := hB.trans (hb.mono hB.size); have hz16 := hb.size
  (try go_wp2_with fail)
  refine hK.out _ _ (⟨keep4 hb qia hR11.1, keep4 hb qib hR11.2.1, keep4 hb qic hR11.2.2⟩) (fun hR12 => ?_)
  clear hK K hR11
  (first | ((fail_if_success (unfold Act.put)); (try simp only [List.setIfInBounds_toArray, List.set])) | (try simp only [Act.put, List.setIfInBounds_toArray, List.set]))
  replace qia := Nat.lt_of_lt_of_le qia hz16
  replace qib := Nat.lt_of_lt_of_le qib hz16
  replace qic := Nat.lt_of_lt_of_le qic hz16
  clear hb hBd
  refine rd1 (i := 37) (by kernel_rfl) rfl (fun K hK => ?_)
  go_simp
  go_at_call 45; have hBd := hB; refine (HK12.out _ _ _ h1 ic).mono ?_; rintro e w17 ⟨⟨vh2, rfl, h2⟩, hb⟩; replace xia := xia.on hb; replace xib := xib.on hb; replace xic := xic.on hb; replace xzero := xzero.on hb; replace xone := xone.on hb; replace ia := ia.on hb; replace ib := ib.on hb; replace ic := ic.on hb; replace gz := gz.on hb; replace go := go.on hb; replace g1 := g1.on hb; replace g2 := g2.on hb; replace g3 := g3.on hb; replace g4 := g4.on hb; replace g5 := g5.on hb; replace g6 := g6.on hb; replace g7 := g7.on hb; replace g8 := g8.on hb; replace h1 := h1.on hb; replace hB := hB.trans (hb.mono hB.size); have hz17 := hb.size
  (try go_wp2_with fail)
  refine hK.out _ _ (⟨keep4 hb qia hR12.1, keep4 hb qib hR12.2.1, keep4 hb qic hR12.2.2⟩) (fun hR13 => ?_)
  clear hK K hR12
  (first | ((fail_if_success (unfold Act.put)); (try simp only [List.setIfInBounds_toArray, List.set])) | (try simp only [Act.put, List.setIfInBounds_toArray, List.set]))
  replace qia := Nat.lt_of_lt_of_le qia hz17
  replace qib := Nat.lt_of_lt_of_le qib hz17
  replace qic := Nat.lt_of_lt_of_le qic hz17
  clear hb hBd
  refine rd1 (i := 41) (by kernel_rfl) rfl (fun K hK => ?_)
  go_simp
  go_at_call 45; have hBd := hB; refine (HK13.out _ _ _ ib ic).mono ?_; rintro e w18 ⟨⟨vh3, rfl, h3⟩, hb⟩; replace xia := xia.on hb; replace xib := xib.on hb; replace xic := xic.on hb; replace xzero := xzero.on hb; replace xone := xone.on hb; replace ia := ia.on hb; replace ib := ib.on hb; replace ic := ic.on hb; replace gz := gz.on hb; replace go := go.on hb; replace g1 := g1.on hb; replace g2 := g2.on hb; replace g3 := g3.on hb; replace g4 := g4.on hb; replace g5 := g5.on hb; replace g6 := g6.on hb; replace g7 := g7.on hb; replace g8 := g8.on hb; replace h1 := h1.on hb; replace h2 := h2.on hb; replace hB := hB.trans (hb.mono hB.size); have hz18 := hb.size
  (try go_wp2_with fail)
  refine hK.out _ _ (⟨keep4 hb qia hR13.1, keep4 hb qib hR13.2.1, keep4 hb qic hR13.2.2⟩) (fun hR14 => ?_)
  clear hK K hR13
  (first | ((fail_if_success (unfold Act.put)); (try simp only [List.setIfInBounds_toArray, List.set])) | (try simp only [Act.put, List.setIfInBounds_toArray, List.set]))
  replace qia := Nat.lt_of_lt_of_le qia hz18
  replace qib := Nat.lt_of_lt_of_le qib hz18
  replace qic := Nat.lt_of_lt_of_le qic hz18
  clear hb hBd
  refine rd1 (i := 42) (by kernel_rfl) rfl (fun K hK => ?_)
  go_simp
  go_at_call 45; have hBd := hB; refine (HK14.out _ _ _ ia h3).mono ?_; rintro e w19 ⟨⟨vh4, rfl, h4⟩, hb⟩; replace xia := xia.on hb; replace xib := xib.on hb; replace xic := xic.on hb; replace xzero := xzero.on hb; replace xone := xone.on hb; replace ia := ia.on hb; replace ib := ib.on hb; replace ic := ic.on hb; replace gz := gz.on hb; replace go := go.on hb; replace g1 := g1.on hb; replace g2 := g2.on hb; replace g3 := g3.on hb; replace g4 := g4.on hb; replace g5 := g5.on hb; replace g6 := g6.on hb; replace g7 := g7.on hb; replace g8 := g8.on hb; replace h1 := h1.on hb; replace h2 := h2.on hb; replace h3 := h3.on hb; replace hB := hB.trans (hb.mono hB.size); have hz19 := hb.size
  (try go_wp2_with fail)
  refine hK.out _ _ (⟨keep4 hb qia hR14.1, keep4 hb qib hR14.2.1, keep4 hb qic hR14.2.2⟩) (fun hR15 => ?_)
  clear hK K hR14
  (first | ((fail_if_success (unfold Act.put)); (try simp only [List.setIfInBounds_toArray, List.set])) | (try simp only [Act.put, List.setIfInBounds_toArray, List.set]))
  replace qia := Nat.lt_of_lt_of_le qia hz19
  replace qib := Nat.lt_of_lt_of_le qib hz19
  replace qic := Nat.lt_of_lt_of_le qic hz19
  clear hb hBd
  refine rd1 (i := 43) (by kernel_rfl) rfl (fun K hK => ?_)
  go_simp
  go_at_call 43; have hBd := hB; refine (HK15.out _ _ _ h2 h4).mono ?_; rintro e w20 ⟨rfl, hb⟩; replace xia := xia.on hb; replace xib := xib.on hb; replace xic := xic.on hb; replace xzero := xzero.on hb; replace xone := xone.on hb; replace ia := ia.on hb; replace ib := ib.on hb; replace ic := ic.on hb; replace gz := gz.on hb; replace go := go.on hb; replace g1 := g1.on hb; replace g2 := g2.on hb; replace g3 := g3.on hb; replace g4 := g4.on hb; replace g5 := g5.on hb; replace g6 := g6.on hb; replace g7 := g7.on hb; replace g8 := g8.on hb; replace h1 := h1.on hb; replace h2 := h2.on hb; replace h3 := h3.on hb; replace h4 := h4.on hb; replace hB := hB.trans (hb.mono hB.size); have hz20 := hb.size
  (try go_wp2_with fail)
  refine hK.out _ _ (⟨keep4 hb qia hR15.1, keep4 hb qib hR15.2.1, keep4 hb qic hR15.2.2⟩) (fun hR16 => ?_)
  clear hK K hR15
  (first | ((fail_if_success (unfold Act.put)); (try simp only [List.setIfInBounds_toArray, List.set])) | (try simp only [Act.put, List.setIfInBounds_toArray, List.set]))
  replace qia := Nat.lt_of_lt_of_le qia hz20
  replace qib := Nat.lt_of_lt_of_le qib hz20
  replace qic := Nat.lt_of_lt_of_le qic hz20
  clear hb hBd
  refine tk (i := 44) (v := ?_) rfl (by kernel_rfl) (fun _ _ _ h => h) (by rfl) ?_ (by assumption) ?_
  rotate_left 1
  · (intro w hSw; (try dsimp only at hSw); go_simp <;> (with_reducible rfl))
  (try simp only [Act.put, List.setIfInBounds_toArray, List.set])
  refine tk (i := 45) (v := ?_) rfl (by kernel_rfl) (fun _ _ _ h => h) (by rfl) ?_ (by assumption) ?_
  rotate_left 1
  · (intro w hSw; (try dsimp only at hSw); go_simp <;> (with_reducible rfl))
  (try simp only [Act.put, List.setIfInBounds_toArray, List.set])
  refine wpAnyH_done (by kernel_rfl) ?_ _
  refine NoPanic.normal ?_
  clear hR16
  clear qia qib qic
  clear g1
  clear g2
  clear g3
  clear g4
  clear g5
  clear g6
  clear g7
  clear g8
  clear h1
  clear h2
  clear h3
  clear h4
  go_wp2_with fail
  obtain ⟨wb, hwb⟩ : ∃ W, W = w20 := ⟨_, rfl⟩
  rw [← hwb] at hB xia xib xic xzero xone ia ib ic gz go ⊢
  clear hwb
  have qia := xia.lt
  have qib := xib.lt
  have qic := xic.lt
  have qzero := xzero.lt
  have qone := xone.lt
  obtain ⟨gia0, gia1, gia2, gia3⟩ := xia.cells4
  obtain ⟨gib0, gib1, gib2, gib3⟩ := xib.cells4
  obtain ⟨gic0, gic1, gic2, gic3⟩ := xic.cells4
  obtain ⟨gzero0, gzero1, gzero2, gzero3⟩ := xzero.cells4
  obtain ⟨gone0, gone1, gone2, gone3⟩ := xone.cells4
  refine wp_region_noPanic ?_
  refine wp_region_held_drew (S := (fun w' => (w'.cell? ⟨w.heap.size, 0, none⟩ = some (.bool bia) ∧ w'.cell? ⟨w.heap.size, 1, none⟩ = some (.slice aia kia cia) ∧ w'.cell? ⟨w.heap.size, 2, none⟩ = some (.bool dia) ∧ w'.cell? ⟨w.heap.size, 3, none⟩ = some (.slice eia lia mia)) ∧ (w'.cell? ⟨w.heap.size + 1, 0, none⟩ = some (.bool bib) ∧ w'.cell? ⟨w.heap.size + 1, 1, none⟩ = some (.slice aib kib cib) ∧ w'.cell? ⟨w.heap.size + 1, 2, none⟩ = some (.bool dib) ∧ w'.cell? ⟨w.heap.size + 1, 3, none⟩ = some (.slice eib lib mib)) ∧ (w'.cell? ⟨w.heap.size + 1 + 1, 0, none⟩ = some (.bool bic) ∧ w'.cell? ⟨w.heap.size + 1 + 1, 1, none⟩ = some (.slice aic kic cic) ∧ w'.cell? ⟨w.heap.size + 1 + 1, 2, none⟩ = some (.bool dic) ∧ w'.cell? ⟨w.heap.size + 1 + 1, 3, none⟩ = some (.slice eic lic mic)) ∧ (w'.cell? ⟨w4.heap.size, 0, none⟩ = some (.bool bz) ∧ w'.cell? ⟨w4.heap.size, 1, none⟩ = some (.slice az kz cz) ∧ w'.cell? ⟨w4.heap.size, 2, none⟩ = some (.bool dz) ∧ w'.cell? ⟨w4.heap.size, 3, none⟩ = some (.slice ez lz mz)) ∧ w'.cell? ⟨w4.heap.size + 1, 0, none⟩ = some (.bool bu) ∧ w'.cell? ⟨w4.heap.size + 1, 1, none⟩ = some (.slice au ku cu) ∧ w'.cell? ⟨w4.heap.size + 1, 2, none⟩ = some (.bool du) ∧ w'.cell? ⟨w4.heap.size + 1, 3, none⟩ = some (.slice eu lu mu))) (by kernel_rfl) ⟨⟨gia0, gia1, gia2, gia3⟩, ⟨gib0, gib1, gib2, gib3⟩, ⟨gic0, gic1, gic2, gic3⟩, ⟨gzero0, gzero1, gzero2, gzero3⟩, ⟨gone0, gone1, gone2, gone3⟩⟩ (fun hR0 => ?_)
  change wpAnyH _ _ _ _ _ 50 #[false, false, false, false, false, false, false, false, false, false, false, false, false, false, false, false, false, false, false, false, false, false, false, false, false, false, false, false, false, false, false, false, false, false, false, false, false, false, false, false, false, false, false, false, false, false, false, false, false, false] _ _
  clear gia0 gia1 gia2 gia3 gib0 gib1 gib2 gib3 gic0 gic1 gic2 gic3 gzero0 gzero1 gzero2 gzero3 gone0 gone1 gone2 gone3
  refine tk (i := 0) (v := ?_) rfl (by kernel_rfl) (fun _ _ _ h => h) (by rfl) ?_ (by assumption) ?_
  rotate_left 1
  · (intro w hSw; (try dsimp only at hSw); go_simp <;> (with_reducible rfl))
  (try simp only [Act.put, List.setIfInBounds_toArray, List.set])
  refine tk (i := 1) (v := ?_) rfl (by kernel_rfl) (fun _ _ _ h => h) (by rfl) ?_ (by assumption) ?_
  rotate_left 1
  · (intro w hSw; (try dsimp only at hSw); go_simp <;> (with_reducible rfl))
  (try simp only [Act.put, List.setIfInBounds_toArray, List.set])
  refine tk (i := 2) (v := ?_) rfl (by kernel_rfl) (fun _ _ _ h => h) (by rfl) ?_ (by assumption) ?_
  rotate_left 1
  · (intro w hSw; (try dsimp only at hSw); go_simp <;> (with_reducible rfl))
  (try simp only [Act.put, List.setIfInBounds_toArray, List.set])
  refine tk (i := 5) (v := ?_) rfl (by kernel_rfl) (fun _ _ _ h => h) (by rfl) ?_ (by assumption) ?_
  rotate_left 1
  · (intro w hSw; (try dsimp only at hSw); go_simp <;> (with_reducible rfl))
  (try simp only [Act.put, List.setIfInBounds_toArray, List.set])
  refine tk (i := 6) (v := ?_) rfl (by kernel_rfl) (fun _ _ _ h => h) (by rfl) ?_ (by assumption) ?_
  rotate_left 1
  · (intro w hSw; (try dsimp only at hSw); go_simp <;> (with_reducible rfl))
  (try simp only [Act.put, List.setIfInBounds_toArray, List.set])
  refine tk (i := 8) (v := ?_) rfl (by kernel_rfl) (fun _ _ _ h => h) (by rfl) ?_ (by assumption) ?_
  rotate_left 1
  · (intro w hSw; (try dsimp only at hSw); go_simp <;> (with_reducible rfl))
  (try simp only [Act.put, List.setIfInBounds_toArray, List.set])
  refine tk (i := 9) (v := ?_) rfl (by kernel_rfl) (fun _ _ _ h => h) (by rfl) ?_ (by assumption) ?_
  rotate_left 1
  · (intro w hSw; (try dsimp only at hSw); go_simp <;> (with_reducible rfl))
  (try simp only [Act.put, List.setIfInBounds_toArray, List.set])
  refine rd1 (i := 3) (by kernel_rfl) rfl (fun K hK => ?_)
  go_simp
  go_at_call 44; have hBd := hB.drew; refine (HK9.out _ _ _ (by exact ib) (by exact ic)).mono ?_; rintro e w21 ⟨⟨vg1, rfl, g1⟩, hb⟩; replace hb := (Below.refl wb.heap.size wb).drew.trans hb; replace xia := xia.on hb; replace xib := xib.on hb; replace xic := xic.on hb; replace xzero := xzero.on hb; replace xone := xone.on hb; replace ia := ia.on hb; replace ib := ib.on hb; replace ic := ic.on hb; replace gz := gz.on hb; replace go := go.on hb; replace hB := hB.trans (hb.mono hB.size); have hz21 := hb.size
  (try go_wp2_with fail)
  refine hK.out _ _ (⟨keep4 hb qia hR0.1, keep4 hb qib hR0.2.1, keep4 hb qic hR0.2.2.1, keep4 hb qzero hR0.2.2.2.1, keep4 hb qone hR0.2.2.2.2⟩) (fun hR1 => ?_)
  clear hK K hR0
  (first | ((fail_if_success (unfold Act.put)); (try simp only [List.setIfInBounds_toArray, List.set])) | (try simp only [Act.put, List.setIfInBounds_toArray, List.set]))
  replace qia := Nat.lt_of_lt_of_le qia hz21
  replace qib := Nat.lt_of_lt_of_le qib hz21
  replace qic := Nat.lt_of_lt_of_le qic hz21
  replace qzero := Nat.lt_of_lt_of_le qzero hz21
  replace qone := Nat.lt_of_lt_of_le qone hz21
  clear hb hBd
  refine rd1 (i := 4) (by kernel_rfl) rfl (fun K hK => ?_)
  go_simp
  go_at_call 45; have hBd := hB; refine (HK16.out _ _ _ ia g1).mono ?_; rintro e w22 ⟨⟨vg2, rfl, g2⟩, hb⟩; replace xia := xia.on hb; replace xib := xib.on hb; replace xic := xic.on hb; replace xzero := xzero.on hb; replace xone := xone.on hb; replace ia := ia.on hb; replace ib := ib.on hb; replace ic := ic.on hb; replace gz := gz.on hb; replace go := go.on hb; replace g1 := g1.on hb; replace hB := hB.trans (hb.mono hB.size); have hz22 := hb.size
  (try go_wp2_with fail)
  refine hK.out _ _ (⟨keep4 hb qia hR1.1, keep4 hb qib hR1.2.1, keep4 hb qic hR1.2.2.1, keep4 hb qzero hR1.2.2.2.1, keep4 hb qone hR1.2.2.2.2⟩) (fun hR2 => ?_)
  clear hK K hR1
  (first | ((fail_if_success (unfold Act.put)); (try simp only [List.setIfInBounds_toArray, List.set])) | (try simp only [Act.put, List.setIfInBounds_toArray, List.set]))
  replace qia := Nat.lt_of_lt_of_le qia hz22
  replace qib := Nat.lt_of_lt_of_le qib hz22
  replace qic := Nat.lt_of_lt_of_le qic hz22
  replace qzero := Nat.lt_of_lt_of_le qzero hz22
  replace qone := Nat.lt_of_lt_of_le qone hz22
  clear hb hBd
  refine rd1 (i := 7) (by kernel_rfl) rfl (fun K hK => ?_)
  go_simp
  go_at_call 45; have hBd := hB; refine (HK5.out _ _ _ ia ib).mono ?_; rintro e w23 ⟨⟨vg3, rfl, g3⟩, hb⟩; replace xia := xia.on hb; replace xib := xib.on hb; replace xic := xic.on hb; replace xzero := xzero.on hb; replace xone := xone.on hb; replace ia := ia.on hb; replace ib := ib.on hb; replace ic := ic.on hb; replace gz := gz.on hb; replace go := go.on hb; replace g1 := g1.on hb; replace g2 := g2.on hb; replace hB := hB.trans (hb.mono hB.size); have hz23 := hb.size
  (try go_wp2_with fail)
  refine hK.out _ _ (⟨keep4 hb qia hR2.1, keep4 hb qib hR2.2.1, keep4 hb qic hR2.2.2.1, keep4 hb qzero hR2.2.2.2.1, keep4 hb qone hR2.2.2.2.2⟩) (fun hR3 => ?_)
  clear hK K hR2
  (first | ((fail_if_success (unfold Act.put)); (try simp only [List.setIfInBounds_toArray, List.set])) | (try simp only [Act.put, List.setIfInBounds_toArray, List.set]))
  replace qia := Nat.lt_of_lt_of_le qia hz23
  replace qib := Nat.lt_of_lt_of_le qib hz23
  replace qic := Nat.lt_of_lt_of_le qic hz23
  replace qzero := Nat.lt_of_lt_of_le qzero hz23
  replace qone := Nat.lt_of_lt_of_le qone hz23
  clear hb hBd
  refine rd1 (i := 10) (by kernel_rfl) rfl (fun K hK => ?_)
  go_simp
  go_at_call 45; have hBd := hB; refine (HK17.out _ _ _ ia ic).mono ?_; rintro e w24 ⟨⟨vg4, rfl, g4⟩, hb⟩; replace xia := xia.on hb; replace xib := xib.on hb; replace xic := xic.on hb; replace xzero := xzero.on hb; replace xone := xone.on hb; replace ia := ia.on hb; replace ib := ib.on hb; replace ic := ic.on hb; replace gz := gz.on hb; replace go := go.on hb; replace g1 := g1.on hb; replace g2 := g2.on hb; replace g3 := g3.on hb; replace hB := hB.trans (hb.mono hB.size); have hz24 := hb.size
  (try go_wp2_with fail)
  refine hK.out _ _ (⟨keep4 hb qia hR3.1, keep4 hb qib hR3.2.1, keep4 hb qic hR3.2.2.1, keep4 hb qzero hR3.2.2.2.1, keep4 hb qone hR3.2.2.2.2⟩) (fun hR4 => ?_)
  clear hK K hR3
  (first | ((fail_if_success (unfold Act.put)); (try simp only [List.setIfInBounds_toArray, List.set])) | (try simp only [Act.put, List.setIfInBounds_toArray, List.set]))
  replace qia := Nat.lt_of_lt_of_le qia hz24
  replace qib := Nat.lt_of_lt_of_le qib hz24
  replace qic := Nat.lt_of_lt_of_le qic hz24
  replace qzero := Nat.lt_of_lt_of_le qzero hz24
  replace qone := Nat.lt_of_lt_of_le qone hz24
  clear hb hBd
  refine rd1 (i := 11) (by kernel_rfl) rfl (fun K hK => ?_)
  go_simp
  go_at_call 44; have hBd := hB; refine (HK18.out _ _ _ g3 g4).mono ?_; rintro e w25 ⟨⟨vg5, rfl, g5⟩, hb⟩; replace xia := xia.on hb; replace xib := xib.on hb; replace xic := xic.on hb; replace xzero := xzero.on hb; replace xone := xone.on hb; replace ia := ia.on hb; replace ib := ib.on hb; replace ic := ic.on hb; replace gz := gz.on hb; replace go := go.on hb; replace g1 := g1.on hb; replace g2 := g2.on hb; replace g3 := g3.on hb; replace g4 := g4.on hb; replace hB := hB.trans (hb.mono hB.size); have hz25 := hb.size
  (try go_wp2_with fail)
  refine hK.out _ _ (⟨keep4 hb qia hR4.1, keep4 hb qib hR4.2.1, keep4 hb qic hR4.2.2.1, keep4 hb qzero hR4.2.2.2.1, keep4 hb qone hR4.2.2.2.2⟩) (fun hR5 => ?_)
  clear hK K hR4
  (first | ((fail_if_success (unfold Act.put)); (try simp only [List.setIfInBounds_toArray, List.set])) | (try simp only [Act.put, List.setIfInBounds_toArray, List.set]))
  replace qia := Nat.lt_of_lt_of_le qia hz25
  replace qib := Nat.lt_of_lt_of_le qib hz25
  replace qic := Nat.lt_of_lt_of_le qic hz25
  replace qzero := Nat.lt_of_lt_of_le qzero hz25
  replace qone := Nat.lt_of_lt_of_le qone hz25
  clear hb hBd
  refine rd1 (i := 12) (by kernel_rfl) rfl (fun K hK => ?_)
  go_simp
  go_at_call 43; have hBd := hB; refine (HK19.out _ _ _ g2 g5).mono ?_; rintro e w26 ⟨rfl, hb⟩; replace xia := xia.on hb; replace xib := xib.on hb; replace xic := xic.on hb; replace xzero := xzero.on hb; replace xone := xone.on hb; replace ia := ia.on hb; replace ib := ib.on hb; replace ic := ic.on hb; replace gz := gz.on hb; replace go := go.on hb; replace g1 := g1.on hb; replace g2 := g2.on hb; replace g3 := g3.on hb; replace g4 := g4.on hb; replace g5 := g5.on hb; replace hB := hB.trans (hb.mono hB.size); have hz26 := hb.size
  (try go_wp2_with fail)
  refine hK.out _ _ (⟨keep4 hb qia hR5.1, keep4 hb qib hR5.2.1, keep4 hb qic hR5.2.2.1, keep4 hb qzero hR5.2.2.2.1, keep4 hb qone hR5.2.2.2.2⟩) (fun hR6 => ?_)
  clear hK K hR5
  (first | ((fail_if_success (unfold Act.put)); (try simp only [List.setIfInBounds_toArray, List.set])) | (try simp only [Act.put, List.setIfInBounds_toArray, List.set]))
  replace qia := Nat.lt_of_lt_of_le qia hz26
  replace qib := Nat.lt_of_lt_of_le qib hz26
  replace qic := Nat.lt_of_lt_of_le qic hz26
  replace qzero := Nat.lt_of_lt_of_le qzero hz26
  replace qone := Nat.lt_of_lt_of_le qone hz26
  clear hb hBd
  refine tk (i := 13) (v := ?_) rfl (by kernel_rfl) (fun _ _ _ h => h) (by rfl) ?_ (by assumption) ?_
  rotate_left 1
  · (intro w hSw; (try dsimp only at hSw); go_simp <;> (with_reducible rfl))
  (try simp only [Act.put, List.setIfInBounds_toArray, List.set])
  refine tk (i := 14) (v := ?_) rfl (by kernel_rfl) (fun _ _ _ h => h) (by rfl) ?_ (by assumption) ?_
  rotate_left 1
  · (intro w hSw; (try dsimp only at hSw); go_simp <;> (with_reducible rfl))
  (try simp only [Act.put, List.setIfInBounds_toArray, List.set])
  refine tk (i := 15) (v := ?_) rfl (by kernel_rfl) (fun _ _ _ h => h) (by rfl) ?_ (by assumption) ?_
  rotate_left 1
  · (intro w hSw; (try dsimp only at hSw); go_simp <;> (with_reducible rfl))
  (try simp only [Act.put, List.setIfInBounds_toArray, List.set])
  refine tk (i := 16) (v := ?_) rfl (by kernel_rfl) (fun _ _ _ h => h) (by rfl) ?_ (by assumption) ?_
  rotate_left 1
  · (intro w hSw; (try dsimp only at hSw); go_simp <;> (with_reducible rfl))
  (try simp only [Act.put, List.setIfInBounds_toArray, List.set])
  refine tk (i := 18) (v := ?_) rfl (by kernel_rfl) (fun _ _ _ h => h) (by rfl) ?_ (by assumption) ?_
  rotate_left 1
  · (intro w hSw; (try dsimp only at hSw); go_simp <;> (with_reducible rfl))
  (try simp only [Act.put, List.setIfInBounds_toArray, List.set])
  refine rd1 (i := 17) (by kernel_rfl) rfl (fun K hK => ?_)
  go_simp
  go_at_call 44; have hBd := hB; refine (HK20.out _ _ _ ia gz).mono ?_; rintro e w27 ⟨⟨vg6, rfl, g6⟩, hb⟩; replace xia := xia.on hb; replace xib := xib.on hb; replace xic := xic.on hb; replace xzero := xzero.on hb; replace xone := xone.on hb; replace ia := ia.on hb; replace ib := ib.on hb; replace ic := ic.on hb; replace gz := gz.on hb; replace go := go.on hb; replace g1 := g1.on hb; replace g2 := g2.on hb; replace g3 := g3.on hb; replace g4 := g4.on hb; replace g5 := g5.on hb; replace hB := hB.trans (hb.mono hB.size); have hz27 := hb.size
  (try go_wp2_with fail)
  refine hK.out _ _ (⟨keep4 hb qia hR6.1, keep4 hb qib hR6.2.1, keep4 hb qic hR6.2.2.1, keep4 hb qzero hR6.2.2.2.1, keep4 hb qone hR6.2.2.2.2⟩) (fun hR7 => ?_)
  clear hK K hR6
  (first | ((fail_if_success (unfold Act.put)); (try simp only [List.setIfInBounds_toArray, List.set])) | (try simp only [Act.put, List.setIfInBounds_toArray, List.set]))
  replace qia := Nat.lt_of_lt_of_le qia hz27
  replace qib := Nat.lt_of_lt_of_le qib hz27
  replace qic := Nat.lt_of_lt_of_le qic hz27
  replace qzero := Nat.lt_of_lt_of_le qzero hz27
  replace qone := Nat.lt_of_lt_of_le qone hz27
  clear hb hBd
  refine rd1 (i := 19) (by kernel_rfl) rfl (fun K hK => ?_)
  go_simp
  go_at_call 43; have hBd := hB; refine (HK21.out _ _ _ g6 ia).mono ?_; rintro e w28 ⟨rfl, hb⟩; replace xia := xia.on hb; replace xib := xib.on hb; replace xic := xic.on hb; replace xzero := xzero.on hb; replace xone := xone.on hb; replace ia := ia.on hb; replace ib := ib.on hb; replace ic := ic.on hb; replace gz := gz.on hb; replace go := go.on hb; replace g1 := g1.on hb; replace g2 := g2.on hb; replace g3 := g3.on hb; replace g4 := g4.on hb; replace g5 := g5.on hb; replace g6 := g6.on hb; replace hB := hB.trans (hb.mono hB.size); have hz28 := hb.size
  (try go_wp2_with fail)
  refine hK.out _ _ (⟨keep4 hb qia hR7.1, keep4 hb qib hR7.2.1, keep4 hb qic hR7.2.2.1, keep4 hb qzero hR7.2.2.2.1, keep4 hb qone hR7.2.2.2.2⟩) (fun hR8 => ?_)
  clear hK K hR7
  (first | ((fail_if_success (unfold Act.put)); (try simp only [List.setIfInBounds_toArray, List.set])) | (try simp only [Act.put, List.setIfInBounds_toArray, List.set]))
  replace qia := Nat.lt_of_lt_of_le qia hz28
  replace qib := Nat.lt_of_lt_of_le qib hz28
  replace qic := Nat.lt_of_lt_of_le qic hz28
  replace qzero := Nat.lt_of_lt_of_le qzero hz28
  replace qone := Nat.lt_of_lt_of_le qone hz28
  clear hb hBd
  refine tk (i := 20) (v := ?_) rfl (by kernel_rfl) (fun _ _ _ h => h) (by rfl) ?_ (by assumption) ?_
  rotate_left 1
  · (intro w hSw; (try dsimp only at hSw); go_simp <;> (with_reducible rfl))
  (try simp only [Act.put, List.setIfInBounds_toArray, List.set])
  refine tk (i := 21) (v := ?_) rfl (by kernel_rfl) (fun _ _ _ h => h) (by rfl) ?_ (by assumption) ?_
  rotate_left 1
  · (intro w hSw; (try dsimp only at hSw); go_simp <;> (with_reducible rfl))
  (try simp only [Act.put, List.setIfInBounds_toArray, List.set])
  refine tk (i := 22) (v := ?_) rfl (by kernel_rfl) (fun _ _ _ h => h) (by rfl) ?_ (by assumption) ?_
  rotate_left 1
  · (intro w hSw; (try dsimp only at hSw); go_simp <;> (with_reducible rfl))
  (try simp only [Act.put, List.setIfInBounds_toArray, List.set])
  refine tk (i := 23) (v := ?_) rfl (by kernel_rfl) (fun _ _ _ h => h) (by rfl) ?_ (by assumption) ?_
  rotate_left 1
  · (intro w hSw; (try dsimp only at hSw); go_simp <;> (with_reducible rfl))
  (try simp only [Act.put, List.setIfInBounds_toArray, List.set])
  refine tk (i := 24) (v := ?_) rfl (by kernel_rfl) (fun _ _ _ h => h) (by rfl) ?_ (by assumption) ?_
  rotate_left 1
  · (intro w hSw; (try dsimp only at hSw); go_simp <;> (with_reducible rfl))
  (try simp only [Act.put, List.setIfInBounds_toArray, List.set])
  refine tk (i := 26) (v := ?_) rfl (by kernel_rfl) (fun _ _ _ h => h) (by rfl) ?_ (by assumption) ?_
  rotate_left 1
  · (intro w hSw; (try dsimp only at hSw); go_simp <;> (with_reducible rfl))
  (try simp only [Act.put, List.setIfInBounds_toArray, List.set])
  refine rd1 (i := 25) (by kernel_rfl) rfl (fun K hK => ?_)
  go_simp
  go_at_call 45; have hBd := hB; refine (HK22.out _ _ _ ia go).mono ?_; rintro e w29 ⟨⟨vg7, rfl, g7⟩, hb⟩; replace xia := xia.on hb; replace xib := xib.on hb; replace xic := xic.on hb; replace xzero := xzero.on hb; replace xone := xone.on hb; replace ia := ia.on hb; replace ib := ib.on hb; replace ic := ic.on hb; replace gz := gz.on hb; replace go := go.on hb; replace g1 := g1.on hb; replace g2 := g2.on hb; replace g3 := g3.on hb; replace g4 := g4.on hb; replace g5 := g5.on hb; replace g6 := g6.on hb; replace hB := hB.trans (hb.mono hB.size); have hz29 := hb.size
  (try go_wp2_with fail)
  refine hK.out _ _ (⟨keep4 hb qia hR8.1, keep4 hb qib hR8.2.1, keep4 hb qic hR8.2.2.1, keep4 hb qzero hR8.2.2.2.1, keep4 hb qone hR8.2.2.2.2⟩) (fun hR9 => ?_)
  clear hK K hR8
  (first | ((fail_if_success (unfold Act.put)); (try simp only [List.setIfInBounds_toArray, List.set])) | (try simp only [Act.put, List.setIfInBounds_toArray, List.set]))
  replace qia := Nat.lt_of_lt_of_le qia hz29
  replace qib := Nat.lt_of_lt_of_le qib hz29
  replace qic := Nat.lt_of_lt_of_le qic hz29
  replace qzero := Nat.lt_of_lt_of_le qzero hz29
  replace qone := Nat.lt_of_lt_of_le qone hz29
  clear hb hBd
  refine rd1 (i := 27) (by kernel_rfl) rfl (fun K hK => ?_)
  go_simp
  go_at_call 43; have hBd := hB; refine (HK21.out _ _ _ g7 ia).mono ?_; rintro e w30 ⟨rfl, hb⟩; replace xia := xia.on hb; replace xib := xib.on hb; replace xic := xic.on hb; replace xzero := xzero.on hb; replace xone := xone.on hb; replace ia := ia.on hb; replace ib := ib.on hb; replace ic := ic.on hb; replace gz := gz.on hb; replace go := go.on hb; replace g1 := g1.on hb; replace g2 := g2.on hb; replace g3 := g3.on hb; replace g4 := g4.on hb; replace g5 := g5.on hb; replace g6 := g6.on hb; replace g7 := g7.on hb; replace hB := hB.trans (hb.mono hB.size); have hz30 := hb.size
  (try go_wp2_with fail)
  refine hK.out _ _ (⟨keep4 hb qia hR9.1, keep4 hb qib hR9.2.1, keep4 hb qic hR9.2.2.1, keep4 hb qzero hR9.2.2.2.1, keep4 hb qone hR9.2.2.2.2⟩) (fun hR10 => ?_)
  clear hK K hR9
  (first | ((fail_if_success (unfold Act.put)); (try simp only [List.setIfInBounds_toArray, List.set])) | (try simp only [Act.put, List.setIfInBounds_toArray, List.set]))
  replace qia := Nat.lt_of_lt_of_le qia hz30
  replace qib := Nat.lt_of_lt_of_le qib hz30
  replace qic := Nat.lt_of_lt_of_le qic hz30
  replace qzero := Nat.lt_of_lt_of_le qzero hz30
  replace qone := Nat.lt_of_lt_of_le qone hz30
  clear hb hBd
  refine tk (i := 28) (v := ?_) rfl (by kernel_rfl) (fun _ _ _ h => h) (by rfl) ?_ (by assumption) ?_
  rotate_left 1
  · (intro w hSw; (try dsimp only at hSw); go_simp <;> (with_reducible rfl))
  (try simp only [Act.put, List.setIfInBounds_toArray, List.set])
  refine tk (i := 29) (v := ?_) rfl (by kernel_rfl) (fun _ _ _ h => h) (by rfl) ?_ (by assumption) ?_
  rotate_left 1
  · (intro w hSw; (try dsimp only at hSw); go_simp <;> (with_reducible rfl))
  (try simp only [Act.put, List.setIfInBounds_toArray, List.set])
  refine tk (i := 30) (v := ?_) rfl (by kernel_rfl) (fun _ _ _ h => h) (by rfl) ?_ (by assumption) ?_
  rotate_left 1
  · (intro w hSw; (try dsimp only at hSw); go_simp <;> (with_reducible rfl))
  (try simp only [Act.put, List.setIfInBounds_toArray, List.set])
  refine tk (i := 31) (v := ?_) rfl (by kernel_rfl) (fun _ _ _ h => h) (by rfl) ?_ (by assumption) ?_
  rotate_left 1
  · (intro w hSw; (try dsimp only at hSw); go_simp <;> (with_reducible rfl))
  (try simp only [Act.put, List.setIfInBounds_toArray, List.set])
  refine tk (i := 32) (v := ?_) rfl (by kernel_rfl) (fun _ _ _ h => h) (by rfl) ?_ (by assumption) ?_
  rotate_left 1
  · (intro w hSw; (try dsimp only at hSw); go_simp <;> (with_reducible rfl))
  (try simp only [Act.put, List.setIfInBounds_toArray, List.set])
  refine tk (i := 34) (v := ?_) rfl (by kernel_rfl) (fun _ _ _ h => h) (by rfl) ?_ (by assumption) ?_
  rotate_left 1
  · (intro w hSw; (try dsimp only at hSw); go_simp <;> (with_reducible rfl))
  (try simp only [Act.put, List.setIfInBounds_toArray, List.set])
  refine tk (i := 36) (v := ?_) rfl (by kernel_rfl) (fun _ _ _ h => h) (by rfl) ?_ (by assumption) ?_
  rotate_left 1
  · (intro w hSw; (try dsimp only at hSw); go_simp <;> (with_reducible rfl))
  (try simp only [Act.put, List.setIfInBounds_toArray, List.set])
  refine rd1 (i := 33) (by kernel_rfl) rfl (fun K hK => ?_)
  go_simp
  go_at_call 44; have hBd := hB; refine (HK2.out _ _ _ ia ib).mono ?_; rintro e w31 ⟨⟨vg8, rfl, g8⟩, hb⟩; replace xia := xia.on hb; replace xib := xib.on hb; replace xic := xic.on hb; replace xzero := xzero.on hb; replace xone := xone.on hb; replace ia := ia.on hb; replace ib := ib.on hb; replace ic := ic.on hb; replace gz := gz.on hb; replace go := go.on hb; replace g1 := g1.on hb; replace g2 := g2.on hb; replace g3 := g3.on hb; replace g4 := g4.on hb; replace g5 := g5.on hb; replace g6 := g6.on hb; replace g7 := g7.on hb; replace hB := hB.trans (hb.mono hB.size); have hz31 := hb.size
  (try go_wp2_with fail)
  refine hK.out _ _ (⟨keep4 hb qia hR10.1, keep4 hb qib hR10.2.1, keep4 hb qic hR10.2.2.1, keep4 hb qzero hR10.2.2.2.1, keep4 hb qone hR10.2.2.2.2⟩) (fun hR11 => ?_)
  clear hK K hR10
  (first | ((fail_if_success (unfold Act.put)); (try simp only [List.setIfInBounds_toArray, List.set])) | (try simp only [Act.put, List.setIfInBounds_toArray, List.set]))
  replace qia := Nat.lt_of_lt_of_le qia hz31
  replace qib := Nat.lt_of_lt_of_le qib hz31
  replace qic := Nat.lt_of_lt_of_le qic hz31
  replace qzero := Nat.lt_of_lt_of_le qzero hz31
  replace qone := Nat.lt_of_lt_of_le qone hz31
  clear hb hBd
  refine rd1 (i := 35) (by kernel_rfl) rfl (fun K hK => ?_)
  go_simp
  go_at_call 46; have hBd := hB; refine (HK23.out _ _ _ g8 ib).mono ?_; rintro e w32 ⟨⟨vg9, rfl, g9⟩, hb⟩; replace xia := xia.on hb; replace xib := xib.on hb; replace xic := xic.on hb; replace xzero := xzero.on hb; replace xone := xone.on hb; replace ia := ia.on hb; replace ib := ib.on hb; replace ic := ic.on hb; replace gz := gz.on hb; replace go := go.on hb; replace g1 := g1.on hb; replace g2 := g2.on hb; replace g3 := g3.on hb; replace g4 := g4.on hb; replace g5 := g5.on hb; replace g6 := g6.on hb; replace g7 := g7.on hb; replace g8 := g8.on hb; replace hB := hB.trans (hb.mono hB.size); have hz32 := hb.size
  (try go_wp2_with fail)
  refine hK.out _ _ (⟨keep4 hb qia hR11.1, keep4 hb qib hR11.2.1, keep4 hb qic hR11.2.2.1, keep4 hb qzero hR11.2.2.2.1, keep4 hb qone hR11.2.2.2.2⟩) (fun hR12 => ?_)
  clear hK K hR11
  (first | ((fail_if_success (unfold Act.put)); (try simp only [List.setIfInBounds_toArray, List.set])) | (try simp only [Act.put, List.setIfInBounds_toArray, List.set]))
  replace qia := Nat.lt_of_lt_of_le qia hz32
  replace qib := Nat.lt_of_lt_of_le qib hz32
  replace qic := Nat.lt_of_lt_of_le qic hz32
  replace qzero := Nat.lt_of_lt_of_le qzero hz32
  replace qone := Nat.lt_of_lt_of_le qone hz32
  clear hb hBd
  refine rd1 (i := 37) (by kernel_rfl) rfl (fun K hK => ?_)
  go_simp
  go_at_call 43; have hBd := hB; refine (HK21.out _ _ _ g9 ia).mono ?_; rintro e w33 ⟨rfl, hb⟩; replace xia := xia.on hb; replace xib := xib.on hb; replace xic := xic.on hb; replace xzero := xzero.on hb; replace xone := xone.on hb; replace ia := ia.on hb; replace ib := ib.on hb; replace ic := ic.on hb; replace gz := gz.on hb; replace go := go.on hb; replace g1 := g1.on hb; replace g2 := g2.on hb; replace g3 := g3.on hb; replace g4 := g4.on hb; replace g5 := g5.on hb; replace g6 := g6.on hb; replace g7 := g7.on hb; replace g8 := g8.on hb; replace g9 := g9.on hb; replace hB := hB.trans (hb.mono hB.size); have hz33 := hb.size
  (try go_wp2_with fail)
  refine hK.out _ _ (⟨keep4 hb qia hR12.1, keep4 hb qib hR12.2.1, keep4 hb qic hR12.2.2.1, keep4 hb qzero hR12.2.2.2.1, keep4 hb qone hR12.2.2.2.2⟩) (fun hR13 => ?_)
  clear hK K hR12
  (first | ((fail_if_success (unfold Act.put)); (try simp only [List.setIfInBounds_toArray, List.set])) | (try simp only [Act.put, List.setIfInBounds_toArray, List.set]))
  replace qia := Nat.lt_of_lt_of_le qia hz33
  replace qib := Nat.lt_of_lt_of_le qib hz33
  replace qic := Nat.lt_of_lt_of_le qic hz33
  replace qzero := Nat.lt_of_lt_of_le qzero hz33
  replace qone := Nat.lt_of_lt_of_le qone hz33
  clear hb hBd
  refine tk (i := 38) (v := ?_) rfl (by kernel_rfl) (fun _ _ _ h => h) (by rfl) ?_ (by assumption) ?_
  rotate_left 1
  · (intro w hSw; (try dsimp only at hSw); go_simp <;> (with_reducible rfl))
  (try simp only [Act.put, List.setIfInBounds_toArray, List.set])
  refine tk (i := 39) (v := ?_) rfl (by kernel_rfl) (fun _ _ _ h => h) (by rfl) ?_ (by assumption) ?_
  rotate_left 1
  · (intro w hSw; (try dsimp only at hSw); go_simp <;> (with_reducible rfl))
  (try simp only [Act.put, List.setIfInBounds_toArray, List.set])
  refine tk (i := 40) (v := ?_) rfl (by kernel_rfl) (fun _ _ _ h => h) (by rfl) ?_ (by assumption) ?_
  rotate_left 1
  · (intro w hSw; (try dsimp only at hSw); go_simp <;> (with_reducible rfl))
  (try simp only [Act.put, List.setIfInBounds_toArray, List.set])
  refine tk (i := 41) (v := ?_) rfl (by kernel_rfl) (fun _ _ _ h => h) (by rfl) ?_ (by assumption) ?_
  rotate_left 1
  · (intro w hSw; (try dsimp only at hSw); go_simp <;> (with_reducible rfl))
  (try simp only [Act.put, List.setIfInBounds_toArray, List.set])
  refine tk (i := 42) (v := ?_) rfl (by kernel_rfl) (fun _ _ _ h => h) (by rfl) ?_ (by assumption) ?_
  rotate_left 1
  · (intro w hSw; (try dsimp only at hSw); go_simp <;> (with_reducible rfl))
  (try simp only [Act.put, List.setIfInBounds_toArray, List.set])
  refine tk (i := 43) (v := ?_) rfl (by kernel_rfl) (fun _ _ _ h => h) (by rfl) ?_ (by assumption) ?_
  rotate_left 1
  · (intro w hSw; (try dsimp only at hSw); go_simp <;> (with_reducible rfl))
  (try simp only [Act.put, List.setIfInBounds_toArray, List.set])
  refine tk (i := 46) (v := ?_) rfl (by kernel_rfl) (fun _ _ _ h => h) (by rfl) ?_ (by assumption) ?_
  rotate_left 1
  · (intro w hSw; (try dsimp only at hSw); go_simp <;> (with_reducible rfl))
  (try simp only [Act.put, List.setIfInBounds_toArray, List.set])
  refine rd1 (i := 44) (by kernel_rfl) rfl (fun K hK => ?_)
  go_simp
  go_at_call 46; have hBd := hB; refine (HK24.out _ _ _ gz ia).mono ?_; rintro e w34 ⟨⟨vh1, rfl, h1⟩, hb⟩; replace xia := xia.on hb; replace xib := xib.on hb; replace xic := xic.on hb; replace xzero := xzero.on hb; replace xone := xone.on hb; replace ia := ia.on hb; replace ib := ib.on hb; replace ic := ic.on hb; replace gz := gz.on hb; replace go := go.on hb; replace g1 := g1.on hb; replace g2 := g2.on hb; replace g3 := g3.on hb; replace g4 := g4.on hb; replace g5 := g5.on hb; replace g6 := g6.on hb; replace g7 := g7.on hb; replace g8 := g8.on hb; replace g9 := g9.on hb; replace hB := hB.trans (hb.mono hB.size); have hz34 := hb.size
  (try go_wp2_with fail)
  refine hK.out _ _ (⟨keep4 hb qia hR13.1, keep4 hb qib hR13.2.1, keep4 hb qic hR13.2.2.1, keep4 hb qzero hR13.2.2.2.1, keep4 hb qone hR13.2.2.2.2⟩) (fun hR14 => ?_)
  clear hK K hR13
  (first | ((fail_if_success (unfold Act.put)); (try simp only [List.setIfInBounds_toArray, List.set])) | (try simp only [Act.put, List.setIfInBounds_toArray, List.set]))
  replace qia := Nat.lt_of_lt_of_le qia hz34
  replace qib := Nat.lt_of_lt_of_le qib hz34
  replace qic := Nat.lt_of_lt_of_le qic hz34
  replace qzero := Nat.lt_of_lt_of_le qzero hz34
  replace qone := Nat.lt_of_lt_of_le qone hz34
  clear hb hBd
  refine rd1 (i := 45) (by kernel_rfl) rfl (fun K hK => ?_)
  go_simp
  go_at_call 44; have hBd := hB; refine (HK25.out _ _ _ ia h1).mono ?_; rintro e w35 ⟨⟨vh2, rfl, h2⟩, hb⟩; replace xia := xia.on hb; replace xib := xib.on hb; replace xic := xic.on hb; replace xzero := xzero.on hb; replace xone := xone.on hb; replace ia := ia.on hb; replace ib := ib.on hb; replace ic := ic.on hb; replace gz := gz.on hb; replace go := go.on hb; replace g1 := g1.on hb; replace g2 := g2.on hb; replace g3 := g3.on hb; replace g4 := g4.on hb; replace g5 := g5.on hb; replace g6 := g6.on hb; replace g7 := g7.on hb; replace g8 := g8.on hb; replace g9 := g9.on hb; replace h1 := h1.on hb; replace hB := hB.trans (hb.mono hB.size); have hz35 := hb.size
  (try go_wp2_with fail)
  refine hK.out _ _ (⟨keep4 hb qia hR14.1, keep4 hb qib hR14.2.1, keep4 hb qic hR14.2.2.1, keep4 hb qzero hR14.2.2.2.1, keep4 hb qone hR14.2.2.2.2⟩) (fun hR15 => ?_)
  clear hK K hR14
  (first | ((fail_if_success (unfold Act.put)); (try simp only [List.setIfInBounds_toArray, List.set])) | (try simp only [Act.put, List.setIfInBounds_toArray, List.set]))
  replace qia := Nat.lt_of_lt_of_le qia hz35
  replace qib := Nat.lt_of_lt_of_le qib hz35
  replace qic := Nat.lt_of_lt_of_le qic hz35
  replace qzero := Nat.lt_of_lt_of_le qzero hz35
  replace qone := Nat.lt_of_lt_of_le qone hz35
  clear hb hBd
  refine rd1 (i := 47) (by kernel_rfl) rfl (fun K hK => ?_)
  go_simp
  go_at_call 43; have hBd := hB; refine (HK26.out _ _ _ h2 gz).mono ?_; rintro e w36 ⟨rfl, hb⟩; replace xia := xia.on hb; replace xib := xib.on hb; replace xic := xic.on hb; replace xzero := xzero.on hb; replace xone := xone.on hb; replace ia := ia.on hb; replace ib := ib.on hb; replace ic := ic.on hb; replace gz := gz.on hb; replace go := go.on hb; replace g1 := g1.on hb; replace g2 := g2.on hb; replace g3 := g3.on hb; replace g4 := g4.on hb; replace g5 := g5.on hb; replace g6 := g6.on hb; replace g7 := g7.on hb; replace g8 := g8.on hb; replace g9 := g9.on hb; replace h1 := h1.on hb; replace h2 := h2.on hb; replace hB := hB.trans (hb.mono hB.size); have hz36 := hb.size
  (try go_wp2_with fail)
  refine hK.out _ _ (⟨keep4 hb qia hR15.1, keep4 hb qib hR15.2.1, keep4 hb qic hR15.2.2.1, keep4 hb qzero hR15.2.2.2.1, keep4 hb qone hR15.2.2.2.2⟩) (fun hR16 => ?_)
  clear hK K hR15
  (first | ((fail_if_success (unfold Act.put)); (try simp only [List.setIfInBounds_toArray, List.set])) | (try simp only [Act.put, List.setIfInBounds_toArray, List.set]))
  replace qia := Nat.lt_of_lt_of_le qia hz36
  replace qib := Nat.lt_of_lt_of_le qib hz36
  replace qic := Nat.lt_of_lt_of_le qic hz36
  replace qzero := Nat.lt_of_lt_of_le qzero hz36
  replace qone := Nat.lt_of_lt_of_le qone hz36
  clear hb hBd
  refine tk (i := 48) (v := ?_) rfl (by kernel_rfl) (fun _ _ _ h => h) (by rfl) ?_ (by assumption) ?_
  rotate_left 1
  · (intro w hSw; (try dsimp only at hSw); go_simp <;> (with_reducible rfl))
  (try simp only [Act.put, List.setIfInBounds_toArray, List.set])
  refine tk (i := 49) (v := ?_) rfl (by kernel_rfl) (fun _ _ _ h => h) (by rfl) ?_ (by assumption) ?_
  rotate_left 1
  · (intro w hSw; (try dsimp only at hSw); go_simp <;> (with_reducible rfl))
  (try simp only [Act.put, List.setIfInBounds_toArray, List.set])
  refine wpAnyH_done (by kernel_rfl) ?_ _
  refine NoPanic.normal ?_
  clear hR16
  clear qia qib qic qzero qone
  clear g1
  clear g2
  clear g3
  clear g4
  clear g5
  clear g6
  clear g7
  clear g8
  clear g9
  clear h1
  clear h2
  have pia := xia.all4
  have pib := xib.all4
  have pic := xic.all4
  have pzero := xzero.all4
  have pone := xone.all4
  have ltia := xia.lt
  have ltib := xib.lt
  have ltic := xic.lt
  have ltzero := xzero.lt
  have ltone := xone.lt
  go_wp2_with fail
  clear ltia
  clear ltib
  clear ltic
  clear ltzero
  clear ltone
  clear pia pib pic pzero pone
  refine (HK27.out _ _ ia).mono ?_
  rintro e w37 ⟨⟨v, rfl, gn⟩, hb⟩
  obtain ⟨bn, an, kn, cn, dn, en, ln, mn, rfl⟩ := gn.opened
  replace xia := xia.on hb
  replace xib := xib.on hb
  replace xic := xic.on hb
  replace xzero := xzero.on hb
  replace xone := xone.on hb
  replace ia := ia.on hb
  replace ib := ib.on hb
  replace ic := ic.on hb
  replace gz := gz.on hb
  replace go := go.on hb
  have hz37 := hb.size
  try simp at hz37
  replace hB := hB.trans (hb.mono hB.size)
  clear hb
  go_wp2_with fail
  have hb := ((Below.refl w37.heap.size w37).alloc (Nat.le_refl _) (.cells #[.bool bn, .slice an kn cn, .bool dn, .slice en ln mn] 26))
  have xnn : Bk _ w37.heap.size #[.bool bn, .slice an kn cn, .bool dn, .slice en ln mn] 26 := (Bk.new w37 #[.bool bn, .slice an kn cn, .bool dn, .slice en ln mn] 26)
  replace xia := xia.on hb
  replace xib := xib.on hb
  replace xic := xic.on hb
  replace xzero := xzero.on hb
  replace xone := xone.on hb
  replace ia := ia.on hb
  replace ib := ib.on hb
  replace ic := ic.on hb
  replace gz := gz.on hb
  replace go := go.on hb
  replace gn := gn.on hb
  replace hB := hB.trans (hb.mono hB.size)
  clear hb
  obtain ⟨wc, hwc⟩ : ∃ W, W = (w37.alloc (.cells #[.bool bn, .slice an kn cn, .bool dn, .slice en ln mn] 26)) := ⟨_, rfl⟩
  rw [← hwc] at hB xia xib xic xzero xone xnn ia ib ic gz go gn ⊢
  clear hwc
  have qnn := xnn.lt
  have qzero := xzero.lt
  have qia := xia.lt
  obtain ⟨gnn0, gnn1, gnn2, gnn3⟩ := xnn.cells4
  obtain ⟨gzero0, gzero1, gzero2, gzero3⟩ := xzero.cells4
  obtain ⟨gia0, gia1, gia2, gia3⟩ := xia.cells4
  refine wp_region_noPanic ?_
  refine wp_region_held_drew (S := (fun w' => (w'.cell? ⟨w37.heap.size, 0, none⟩ = some (.bool bn) ∧ w'.cell? ⟨w37.heap.size, 1, none⟩ = some (.slice an kn cn) ∧ w'.cell? ⟨w37.heap.size, 2, none⟩ = some (.bool dn) ∧ w'.cell? ⟨w37.heap.size, 3, none⟩ = some (.slice en ln mn)) ∧ (w'.cell? ⟨w4.heap.size, 0, none⟩ = some (.bool bz) ∧ w'.cell? ⟨w4.heap.size, 1, none⟩ = some (.slice az kz cz) ∧ w'.cell? ⟨w4.heap.size, 2, none⟩ = some (.bool dz) ∧ w'.cell? ⟨w4.heap.size, 3, none⟩ = some (.slice ez lz mz)) ∧ w'.cell? ⟨w.heap.size, 0, none⟩ = some (.bool bia) ∧ w'.cell? ⟨w.heap.size, 1, none⟩ = some (.slice aia kia cia) ∧ w'.cell? ⟨w.heap.size, 2, none⟩ = some (.bool dia) ∧ w'.cell? ⟨w.heap.size, 3, none⟩ = some (.slice eia lia mia))) (by kernel_rfl) ⟨⟨gnn0, gnn1, gnn2, gnn3⟩, ⟨gzero0, gzero1, gzero2, gzero3⟩, ⟨gia0, gia1, gia2, gia3⟩⟩ (fun hR0 => ?_)
  change wpAnyH _ _ _ _ _ 10 #[false, false, false, false, false, false, false, false, false, false] _ _
  clear gnn0 gnn1 gnn2 gnn3 gzero0 gzero1 gzero2 gzero3 gia0 gia1 gia2 gia3
  refine tk (i := 0) (v := ?_) rfl (by kernel_rfl) (fun _ _ _ h => h) (by rfl) ?_ (by assumption) ?_
  rotate_left 1
  · (intro w hSw; (try dsimp only at hSw); go_simp <;> (with_reducible rfl))
  (try simp only [Act.put, List.setIfInBounds_toArray, List.set])
  refine tk (i := 1) (v := ?_) rfl (by kernel_rfl) (fun _ _ _ h => h) (by rfl) ?_ (by assumption) ?_
  rotate_left 1
  · (intro w hSw; (try dsimp only at hSw); go_simp <;> (with_reducible rfl))
  (try simp only [Act.put, List.setIfInBounds_toArray, List.set])
  refine tk (i := 2) (v := ?_) rfl (by kernel_rfl) (fun _ _ _ h => h) (by rfl) ?_ (by assumption) ?_
  rotate_left 1
  · (intro w hSw; (try dsimp only at hSw); go_simp <;> (with_reducible rfl))
  (try simp only [Act.put, List.setIfInBounds_toArray, List.set])
  refine tk (i := 3) (v := ?_) rfl (by kernel_rfl) (fun _ _ _ h => h) (by rfl) ?_ (by assumption) ?_
  rotate_left 1
  · (intro w hSw; (try dsimp only at hSw); go_simp <;> (with_reducible rfl))
  (try simp only [Act.put, List.setIfInBounds_toArray, List.set])
  refine tk (i := 4) (v := ?_) rfl (by kernel_rfl) (fun _ _ _ h => h) (by rfl) ?_ (by assumption) ?_
  rotate_left 1
  · (intro w hSw; (try dsimp only at hSw); go_simp <;> (with_reducible rfl))
  (try simp only [Act.put, List.setIfInBounds_toArray, List.set])
  refine tk (i := 5) (v := ?_) rfl (by kernel_rfl) (fun _ _ _ h => h) (by rfl) ?_ (by assumption) ?_
  rotate_left 1
  · (intro w hSw; (try dsimp only at hSw); go_simp <;> (with_reducible rfl))
  (try simp only [Act.put, List.setIfInBounds_toArray, List.set])
  refine rd1 (i := 6) (by kernel_rfl) rfl (fun K hK => ?_)
  go_simp
  go_at_call 46; have hBd := hB.drew; refine (HK24.out _ _ _ (by exact gz) (by exact ia)).mono ?_; rintro e w38 ⟨⟨vh1, rfl, h1⟩, hb⟩; replace hb := (Below.refl wc.heap.size wc).drew.trans hb; replace xia := xia.on hb; replace xib := xib.on hb; replace xic := xic.on hb; replace xzero := xzero.on hb; replace xone := xone.on hb; replace xnn := xnn.on hb; replace ia := ia.on hb; replace ib := ib.on hb; replace ic := ic.on hb; replace gz := gz.on hb; replace go := go.on hb; replace gn := gn.on hb; replace hB := hB.trans (hb.mono hB.size); have hz38 := hb.size
  (try go_wp2_with fail)
  refine hK.out _ _ (⟨keep4 hb qnn hR0.1, keep4 hb qzero hR0.2.1, keep4 hb qia hR0.2.2⟩) (fun hR1 => ?_)
  clear hK K hR0
  (first | ((fail_if_success (unfold Act.put)); (try simp only [List.setIfInBounds_toArray, List.set])) | (try simp only [Act.put, List.setIfInBounds_toArray, List.set]))
  replace qnn := Nat.lt_of_lt_of_le qnn hz38
  replace qzero := Nat.lt_of_lt_of_le qzero hz38
  replace qia := Nat.lt_of_lt_of_le qia hz38
  clear hb hBd
  refine rd1 (i := 7) (by kernel_rfl) rfl (fun K hK => ?_)
  go_simp
  go_at_call 43; have hBd := hB; refine (HK28.out _ _ _ gn h1).mono ?_; rintro e w39 ⟨rfl, hb⟩; replace xia := xia.on hb; replace xib := xib.on hb; replace xic := xic.on hb; replace xzero := xzero.on hb; replace xone := xone.on hb; replace xnn := xnn.on hb; replace ia := ia.on hb; replace ib := ib.on hb; replace ic := ic.on hb; replace gz := gz.on hb; replace go := go.on hb; replace gn := gn.on hb; replace h1 := h1.on hb; replace hB := hB.trans (hb.mono hB.size); have hz39 := hb.size
  (try go_wp2_with fail)
  refine hK.out _ _ (⟨keep4 hb qnn hR1.1, keep4 hb qzero hR1.2.1, keep4 hb qia hR1.2.2⟩) (fun hR2 => ?_)
  clear hK K hR1
  (first | ((fail_if_success (unfold Act.put)); (try simp only [List.setIfInBounds_toArray, List.set])) | (try simp only [Act.put, List.setIfInBounds_toArray, List.set]))
  replace qnn := Nat.lt_of_lt_of_le qnn hz39
  replace qzero := Nat.lt_of_lt_of_le qzero hz39
  replace qia := Nat.lt_of_lt_of_le qia hz39
  clear hb hBd
  refine tk (i := 8) (v := ?_) rfl (by kernel_rfl) (fun _ _ _ h => h) (by rfl) ?_ (by assumption) ?_
  rotate_left 1
  · (intro w hSw; (try dsimp only at hSw); go_simp <;> (with_reducible rfl))
  (try simp only [Act.put, List.setIfInBounds_toArray, List.set])
  refine tk (i := 9) (v := ?_) rfl (by kernel_rfl) (fun _ _ _ h => h) (by rfl) ?_ (by assumption) ?_
  rotate_left 1
  · (intro w hSw; (try dsimp only at hSw); go_simp <;> (with_reducible rfl))
  (try simp only [Act.put, List.setIfInBounds_toArray, List.set])
  refine wpAnyH_done (by kernel_rfl) ?_ _
  refine NoPanic.normal ?_
  clear hR2
  clear qnn qzero qia
  clear h1
  clear gn
  clear xnn
  have hk := (num_len (fra_nums ib).2.2.1).1
  have hk2 : ((kib : Int) == 0) = false := by
    rw [beq_eq_false_iff_ne]; intro e; refine hb0 ((Fq.num_zero b).1 ?_)
    have : dig b.num.natAbs = [] := List.eq_nil_of_length_eq_zero (by omega)
    have := (dig_nil_iff _).1 this; omega
  clear hk
  have pia := xia.all4
  have pib := xib.all4
  have pic := xic.all4
  have pzero := xzero.all4
  have pone := xone.all4
  have ltia := xia.lt
  have ltib := xib.lt
  have ltic := xic.lt
  have ltzero := xzero.lt
  have ltone := xone.lt
  go_wp2_with fail
  clear ltia
  clear ltib
  clear ltic
  clear ltzero
  clear ltone
  clear pia pib pic pzero pone
  clear hk2
  obtain ⟨wd, hwd⟩ : ∃ W, W = w39 := ⟨_, rfl⟩
  rw [← hwd] at hB xia xib xic xzero xone ia ib ic gz go ⊢
  clear hwd
  have qia := xia.lt
  have qib := xib.lt
  have qone := xone.lt
  obtain ⟨gia0, gia1, gia2, gia3⟩ := xia.cells4
  obtain ⟨gib0, gib1, gib2, gib3⟩ := xib.cells4
  obtain ⟨gone0, gone1, gone2, gone3⟩ := xone.cells4
  refine wp_region_noPanic ?_
  refine wp_region_held_drew (S := (fun w' => (w'.cell? ⟨w.heap.size, 0, none⟩ = some (.bool bia) ∧ w'.cell? ⟨w.heap.size, 1, none⟩ = some (.slice aia kia cia) ∧ w'.cell? ⟨w.heap.size, 2, none⟩ = some (.bool dia) ∧ w'.cell? ⟨w.heap.size, 3, none⟩ = some (.slice eia lia mia)) ∧ (w'.cell? ⟨w.heap.size + 1, 0, none⟩ = some (.bool bib) ∧ w'.cell? ⟨w.heap.size + 1, 1, none⟩ = some (.slice aib kib cib) ∧ w'.cell? ⟨w.heap.size + 1, 2, none⟩ = some (.bool dib) ∧ w'.cell? ⟨w.heap.size + 1, 3, none⟩ = some (.slice eib lib mib)) ∧ w'.cell? ⟨w4.heap.size + 1, 0, none⟩ = some (.bool bu) ∧ w'.cell? ⟨w4.heap.size + 1, 1, none⟩ = some (.slice au ku cu) ∧ w'.cell? ⟨w4.heap.size + 1, 2, none⟩ = some (.bool du) ∧ w'.cell? ⟨w4.heap.size + 1, 3, none⟩ = some (.slice eu lu mu))) (by kernel_rfl) ⟨⟨gia0, gia1, gia2, gia3⟩, ⟨gib0, gib1, gib2, gib3⟩, ⟨gone0, gone1, gone2, gone3⟩⟩ (fun hR0 => ?_)
  change wpAnyH _ _ _ _ _ 26 #[false, false, false, false, false, false, false, false, false, false, false, false, false, false, false, false, false, false, false, false, false, false, false, false, false, false] _ _
  clear gia0 gia1 gia2 gia3 gib0 gib1 gib2 gib3 gone0 gone1 gone2 gone3
  refine tk (i := 0) (v := ?_) rfl (by kernel_rfl) (fun _ _ _ h => h) (by rfl) ?_ (by assumption) ?_
  rotate_left 1
  · (intro w hSw; (try dsimp only at hSw); go_simp <;> (with_reducible rfl))
  (try simp only [Act.put, List.setIfInBounds_toArray, List.set])
  refine tk (i := 1) (v := ?_) rfl (by kernel_rfl) (fun _ _ _ h => h) (by rfl) ?_ (by assumption) ?_
  rotate_left 1
  · (intro w hSw; (try dsimp only at hSw); go_simp <;> (with_reducible rfl))
  (try simp only [Act.put, List.setIfInBounds_toArray, List.set])
  refine tk (i := 3) (v := ?_) rfl (by kernel_rfl) (fun _ _ _ h => h) (by rfl) ?_ (by assumption) ?_
  rotate_left 1
  · (intro w hSw; (try dsimp only at hSw); go_simp <;> (with_reducible rfl))
  (try simp only [Act.put, List.setIfInBounds_toArray, List.set])
  refine tk (i := 5) (v := ?_) rfl (by kernel_rfl) (fun _ _ _ h => h) (by rfl) ?_ (by assumption) ?_
  rotate_left 1
  · (intro w hSw; (try dsimp only at hSw); go_simp <;> (with_reducible rfl))
  (try simp only [Act.put, List.setIfInBounds_toArray, List.set])
  refine rd1 (i := 2) (by kernel_rfl) rfl (fun K hK => ?_)
  go_simp
  go_at_call 45; have hBd := hB.drew; refine (HK5.out _ _ _ (by exact ia) (by exact ib)).mono ?_; rintro e w40 ⟨⟨vg1, rfl, g1⟩, hb⟩; replace hb := (Below.refl wd.heap.size wd).drew.trans hb; replace xia := xia.on hb; replace xib := xib.on hb; replace xic := xic.on hb; replace xzero := xzero.on hb; replace xone := xone.on hb; replace ia := ia.on hb; replace ib := ib.on hb; replace ic := ic.on hb; replace gz := gz.on hb; replace go := go.on hb; replace hB := hB.trans (hb.mono hB.size); have hz40 := hb.size
  (try go_wp2_with fail)
  refine hK.out _ _ (⟨keep4 hb qia hR0.1, keep4 hb qib hR0.2.1, keep4 hb qone hR0.2.2⟩) (fun hR1 => ?_)
  clear hK K hR0
  (first | ((fail_if_success (unfold Act.put)); (try simp only [List.setIfInBounds_toArray, List.set])) | (try simp only [Act.put, List.setIfInBounds_toArray, List.set]))
  replace qia := Nat.lt_of_lt_of_le qia hz40
  replace qib := Nat.lt_of_lt_of_le qib hz40
  replace qone := Nat.lt_of_lt_of_le qone hz40
  clear hb hBd
  refine rd1 (i := 4) (by kernel_rfl) rfl (fun K hK => ?_)
  go_simp
  go_at_call 49; have hBd := hB; refine (HK29.out _ _ _ g1 ib).mono ?_; rintro e w41 ⟨⟨vg2, rfl, g2⟩, hb⟩; replace xia := xia.on hb; replace xib := xib.on hb; replace xic := xic.on hb; replace xzero := xzero.on hb; replace xone := xone.on hb; replace ia := ia.on hb; replace ib := ib.on hb; replace ic := ic.on hb; replace gz := gz.on hb; replace go := go.on hb; replace g1 := g1.on hb; replace hB := hB.trans (hb.mono hB.size); have hz41 := hb.size
  (try go_wp2_with fail)
  refine hK.out _ _ (⟨keep4 hb qia hR1.1, keep4 hb qib hR1.2.1, keep4 hb qone hR1.2.2⟩) (fun hR2 => ?_)
  clear hK K hR1
  (first | ((fail_if_success (unfold Act.put)); (try simp only [List.setIfInBounds_toArray, List.set])) | (try simp only [Act.put, List.setIfInBounds_toArray, List.set]))
  replace qia := Nat.lt_of_lt_of_le qia hz41
  replace qib := Nat.lt_of_lt_of_le qib hz41
  replace qone := Nat.lt_of_lt_of_le qone hz41
  clear hb hBd
  refine rd1 (i := 6) (by kernel_rfl) rfl (fun K hK => ?_)
  go_simp
  go_at_call 43; have hBd := hB; refine (HK21.out _ _ _ g2 ia).mono ?_; rintro e w42 ⟨rfl, hb⟩; replace xia := xia.on hb; replace xib := xib.on hb; replace xic := xic.on hb; replace xzero := xzero.on hb; replace xone := xone.on hb; replace ia := ia.on hb; replace ib := ib.on hb; replace ic := ic.on hb; replace gz := gz.on hb; replace go := go.on hb; replace g1 := g1.on hb; replace g2 := g2.on hb; replace hB := hB.trans (hb.mono hB.size); have hz42 := hb.size
  (try go_wp2_with fail)
  refine hK.out _ _ (⟨keep4 hb qia hR2.1, keep4 hb qib hR2.2.1, keep4 hb qone hR2.2.2⟩) (fun hR3 => ?_)
  clear hK K hR2
  (first | ((fail_if_success (unfold Act.put)); (try simp only [List.setIfInBounds_toArray, List.set])) | (try simp only [Act.put, List.setIfInBounds_toArray, List.set]))
  replace qia := Nat.lt_of_lt_of_le qia hz42
  replace qib := Nat.lt_of_lt_of_le qib hz42
  replace qone := Nat.lt_of_lt_of_le qone hz42
  clear hb hBd
  refine tk (i := 7) (v := ?_) rfl (by kernel_rfl) (fun _ _ _ h => h) (by rfl) ?_ (by assumption) ?_
  rotate_left 1
  · (intro w hSw; (try dsimp only at hSw); go_simp <;> (with_reducible rfl))
  (try simp only [Act.put, List.setIfInBounds_toArray, List.set])
  refine tk (i := 8) (v := ?_) rfl (by kernel_rfl) (fun _ _ _ h => h) (by rfl) ?_ (by assumption) ?_
  rotate_left 1
  · (intro w hSw; (try dsimp only at hSw); go_simp <;> (with_reducible rfl))
  (try simp only [Act.put, List.setIfInBounds_toArray, List.set])
  refine tk (i := 9) (v := ?_) rfl (by kernel_rfl) (fun _ _ _ h => h) (by rfl) ?_ (by assumption) ?_
  rotate_left 1
  · (intro w hSw; (try dsimp only at hSw); go_simp <;> (with_reducible rfl))
  (try simp only [Act.put, List.setIfInBounds_toArray, List.set])
  refine tk (i := 11) (v := ?_) rfl (by kernel_rfl) (fun _ _ _ h => h) (by rfl) ?_ (by assumption) ?_
  rotate_left 1
  · (intro w hSw; (try dsimp only at hSw); go_simp <;> (with_reducible rfl))
  (try simp only [Act.put, List.setIfInBounds_toArray, List.set])
  refine tk (i := 13) (v := ?_) rfl (by kernel_rfl) (fun _ _ _ h => h) (by rfl) ?_ (by assumption) ?_
  rotate_left 1
  · (intro w hSw; (try dsimp only at hSw); go_simp <;> (with_reducible rfl))
  (try simp only [Act.put, List.setIfInBounds_toArray, List.set])
  refine rd1 (i := 10) (by kernel_rfl) rfl (fun K hK => ?_)
  go_simp
  go_at_call 49; have hBd := hB; refine (HK30.out _ _ _ ia ib).mono ?_; rintro e w43 ⟨⟨vg3, rfl, g3⟩, hb⟩; replace xia := xia.on hb; replace xib := xib.on hb; replace xic := xic.on hb; replace xzero := xzero.on hb; replace xone := xone.on hb; replace ia := ia.on hb; replace ib := ib.on hb; replace ic := ic.on hb; replace gz := gz.on hb; replace go := go.on hb; replace g1 := g1.on hb; replace g2 := g2.on hb; replace hB := hB.trans (hb.mono hB.size); have hz43 := hb.size
  (try go_wp2_with fail)
  refine hK.out _ _ (⟨keep4 hb qia hR3.1, keep4 hb qib hR3.2.1, keep4 hb qone hR3.2.2⟩) (fun hR4 => ?_)
  clear hK K hR3
  (first | ((fail_if_success (unfold Act.put)); (try simp only [List.setIfInBounds_toArray, List.set])) | (try simp only [Act.put, List.setIfInBounds_toArray, List.set]))
  replace qia := Nat.lt_of_lt_of_le qia hz43
  replace qib := Nat.lt_of_lt_of_le qib hz43
  replace qone := Nat.lt_of_lt_of_le qone hz43
  clear hb hBd
  refine rd1 (i := 12) (by kernel_rfl) rfl (fun K hK => ?_)
  go_simp
  go_at_call 45; have hBd := hB; refine (HK31.out _ _ _ g3 ib).mono ?_; rintro e w44 ⟨⟨vg4, rfl, g4⟩, hb⟩; replace xia := xia.on hb; replace xib := xib.on hb; replace xic := xic.on hb; replace xzero := xzero.on hb; replace xone := xone.on hb; replace ia := ia.on hb; replace ib := ib.on hb; replace ic := ic.on hb; replace gz := gz.on hb; replace go := go.on hb; replace g1 := g1.on hb; replace g2 := g2.on hb; replace g3 := g3.on hb; replace hB := hB.trans (hb.mono hB.size); have hz44 := hb.size
  (try go_wp2_with fail)
  refine hK.out _ _ (⟨keep4 hb qia hR4.1, keep4 hb qib hR4.2.1, keep4 hb qone hR4.2.2⟩) (fun hR5 => ?_)
  clear hK K hR4
  (first | ((fail_if_success (unfold Act.put)); (try simp only [List.setIfInBounds_toArray, List.set])) | (try simp only [Act.put, List.setIfInBounds_toArray, List.set]))
  replace qia := Nat.lt_of_lt_of_le qia hz44
  replace qib := Nat.lt_of_lt_of_le qib hz44
  replace qone := Nat.lt_of_lt_of_le qone hz44
  clear hb hBd
  refine rd1 (i := 14) (by kernel_rfl) rfl (fun K hK => ?_)
  go_simp
  go_at_call 43; have hBd := hB; refine (HK21.out _ _ _ g4 ia).mono ?_; rintro e w45 ⟨rfl, hb⟩; replace xia := xia.on hb; replace xib := xib.on hb; replace xic := xic.on hb; replace xzero := xzero.on hb; replace xone := xone.on hb; replace ia := ia.on hb; replace ib := ib.on hb; replace ic := ic.on hb; replace gz := gz.on hb; replace go := go.on hb; replace g1 := g1.on hb; replace g2 := g2.on hb; replace g3 := g3.on hb; replace g4 := g4.on hb; replace hB := hB.trans (hb.mono hB.size); have hz45 := hb.size
  (try go_wp2_with fail)
  refine hK.out _ _ (⟨keep4 hb qia hR5.1, keep4 hb qib hR5.2.1, keep4 hb qone hR5.2.2⟩) (fun hR6 => ?_)
  clear hK K hR5
  (first | ((fail_if_success (unfold Act.put)); (try simp only [List.setIfInBounds_toArray, List.set])) | (try simp only [Act.put, List.setIfInBounds_toArray, List.set]))
  replace qia := Nat.lt_of_lt_of_le qia hz45
  replace qib := Nat.lt_of_lt_of_le qib hz45
  replace qone := Nat.lt_of_lt_of_le qone hz45
  clear hb hBd
  refine tk (i := 15) (v := ?_) rfl (by kernel_rfl) (fun _ _ _ h => h) (by rfl) ?_ (by assumption) ?_
  rotate_left 1
  · (intro w hSw; (try dsimp only at hSw); go_simp <;> (with_reducible rfl))
  (try simp only [Act.put, List.setIfInBounds_toArray, List.set])
  refine tk (i := 16) (v := ?_) rfl (by kernel_rfl) (fun _ _ _ h => h) (by rfl) ?_ (by assumption) ?_
  rotate_left 1
  · (intro w hSw; (try dsimp only at hSw); go_simp <;> (with_reducible rfl))
  (try simp only [Act.put, List.setIfInBounds_toArray, List.set])
  refine tk (i := 17) (v := ?_) rfl (by kernel_rfl) (fun _ _ _ h => h) (by rfl) ?_ (by assumption) ?_
  rotate_left 1
  · (intro w hSw; (try dsimp only at hSw); go_simp <;> (with_reducible rfl))
  (try simp only [Act.put, List.setIfInBounds_toArray, List.set])
  refine tk (i := 18) (v := ?_) rfl (by kernel_rfl) (fun _ _ _ h => h) (by rfl) ?_ (by assumption) ?_
  rotate_left 1
  · (intro w hSw; (try dsimp only at hSw); go_simp <;> (with_reducible rfl))
  (try simp only [Act.put, List.setIfInBounds_toArray, List.set])
  refine tk (i := 19) (v := ?_) rfl (by kernel_rfl) (fun _ _ _ h => h) (by rfl) ?_ (by assumption) ?_
  rotate_left 1
  · (intro w hSw; (try dsimp only at hSw); go_simp <;> (with_reducible rfl))
  (try simp only [Act.put, List.setIfInBounds_toArray, List.set])
  refine tk (i := 22) (v := ?_) rfl (by kernel_rfl) (fun _ _ _ h => h) (by rfl) ?_ (by assumption) ?_
  rotate_left 1
  · (intro w hSw; (try dsimp only at hSw); go_simp <;> (with_reducible rfl))
  (try simp only [Act.put, List.setIfInBounds_toArray, List.set])
  refine rd1 (i := 20) (by kernel_rfl) rfl (fun K hK => ?_)
  go_simp
  go_at_call 49; have hBd := hB; refine (HK32.out _ _ _ go ib).mono ?_; rintro e w46 ⟨⟨vg5, rfl, g5⟩, hb⟩; replace xia := xia.on hb; replace xib := xib.on hb; replace xic := xic.on hb; replace xzero := xzero.on hb; replace xone := xone.on hb; replace ia := ia.on hb; replace ib := ib.on hb; replace ic := ic.on hb; replace gz := gz.on hb; replace go := go.on hb; replace g1 := g1.on hb; replace g2 := g2.on hb; replace g3 := g3.on hb; replace g4 := g4.on hb; replace hB := hB.trans (hb.mono hB.size); have hz46 := hb.size
  (try go_wp2_with fail)
  refine hK.out _ _ (⟨keep4 hb qia hR6.1, keep4 hb qib hR6.2.1, keep4 hb qone hR6.2.2⟩) (fun hR7 => ?_)
  clear hK K hR6
  (first | ((fail_if_success (unfold Act.put)); (try simp only [List.setIfInBounds_toArray, List.set])) | (try simp only [Act.put, List.setIfInBounds_toArray, List.set]))
  replace qia := Nat.lt_of_lt_of_le qia hz46
  replace qib := Nat.lt_of_lt_of_le qib hz46
  replace qone := Nat.lt_of_lt_of_le qone hz46
  clear hb hBd
  refine rd1 (i := 21) (by kernel_rfl) rfl (fun K hK => ?_)
  go_simp
  go_at_call 45; have hBd := hB; refine (HK33.out _ _ _ ib g5).mono ?_; rintro e w47 ⟨⟨vg6, rfl, g6⟩, hb⟩; replace xia := xia.on hb; replace xib := xib.on hb; replace xic := xic.on hb; replace xzero := xzero.on hb; replace xone := xone.on hb; replace ia := ia.on hb; replace ib := ib.on hb; replace ic := ic.on hb; replace gz := gz.on hb; replace go := go.on hb; replace g1 := g1.on hb; replace g2 := g2.on hb; replace g3 := g3.on hb; replace g4 := g4.on hb; replace g5 := g5.on hb; replace hB := hB.trans (hb.mono hB.size); have hz47 := hb.size
  (try go_wp2_with fail)
  refine hK.out _ _ (⟨keep4 hb qia hR7.1, keep4 hb qib hR7.2.1, keep4 hb qone hR7.2.2⟩) (fun hR8 => ?_)
  clear hK K hR7
  (first | ((fail_if_success (unfold Act.put)); (try simp only [List.setIfInBounds_toArray, List.set])) | (try simp only [Act.put, List.setIfInBounds_toArray, List.set]))
  replace qia := Nat.lt_of_lt_of_le qia hz47
  replace qib := Nat.lt_of_lt_of_le qib hz47
  replace qone := Nat.lt_of_lt_of_le qone hz47
  clear hb hBd
  refine rd1 (i := 23) (by kernel_rfl) rfl (fun K hK => ?_)
  go_simp
  go_at_call 43; have hBd := hB; refine (HK34.out _ _ _ g6 go).mono ?_; rintro e w48 ⟨rfl, hb⟩; replace xia := xia.on hb; replace xib := xib.on hb; replace xic := xic.on hb; replace xzero := xzero.on hb; replace xone := xone.on hb; replace ia := ia.on hb; replace ib := ib.on hb; replace ic := ic.on hb; replace gz := gz.on hb; replace go := go.on hb; replace g1 := g1.on hb; replace g2 := g2.on hb; replace g3 := g3.on hb; replace g4 := g4.on hb; replace g5 := g5.on hb; replace g6 := g6.on hb; replace hB := hB.trans (hb.mono hB.size); have hz48 := hb.size
  (try go_wp2_with fail)
  refine hK.out _ _ (⟨keep4 hb qia hR8.1, keep4 hb qib hR8.2.1, keep4 hb qone hR8.2.2⟩) (fun hR9 => ?_)
  clear hK K hR8
  (first | ((fail_if_success (unfold Act.put)); (try simp only [List.setIfInBounds_toArray, List.set])) | (try simp only [Act.put, List.setIfInBounds_toArray, List.set]))
  replace qia := Nat.lt_of_lt_of_le qia hz48
  replace qib := Nat.lt_of_lt_of_le qib hz48
  replace qone := Nat.lt_of_lt_of_le qone hz48
  clear hb hBd
  refine tk (i := 24) (v := ?_) rfl (by kernel_rfl) (fun _ _ _ h => h) (by rfl) ?_ (by assumption) ?_
  rotate_left 1
  · (intro w hSw; (try dsimp only at hSw); go_simp <;> (with_reducible rfl))
  (try simp only [Act.put, List.setIfInBounds_toArray, List.set])
  refine tk (i := 25) (v := ?_) rfl (by kernel_rfl) (fun _ _ _ h => h) (by rfl) ?_ (by assumption) ?_
  rotate_left 1
  · (intro w hSw; (try dsimp only at hSw); go_simp <;> (with_reducible rfl))
  (try simp only [Act.put, List.setIfInBounds_toArray, List.set])
  refine wpAnyH_done (by kernel_rfl) ?_ _
  refine NoPanic.normal ?_
  clear hR9
  clear qia qib qone
  go_wp2
  go_ret
  exact ⟨rfl, hB⟩
theorem FracField_core (a b c : Rat) (sa : Fz 40 40 a) (sb : Fz 40 40 b) (sc : Fz 40 40 c) (bia : Bool) (aia : Option Addr) (kia cia : Nat) (dia : Bool) (eia : Option Addr) (lia mia : Nat) (bib : Bool) (aib : Option Addr) (kib cib : Nat) (dib : Bool) (eib : Option Addr) (lib mib : Nat) (bic : Bool) (aic : Option Addr) (kic cic : Nat) (dic : Bool) (eic : Option Addr) (lic mic : Nat) (w : World) (ia : Fra w (.agg #[.bool bia, .slice aia kia cia, .bool dia, .slice eia lia mia]) a) (ib : Fra w (.agg #[.bool bib, .slice aib kib cib, .bool dib, .slice eib lib mib]) b) (ic : Fra w (.agg #[.bool bic, .slice aic kic cic, .bool dic, .slice eic lic mic]) c) :
    Calls Tryz.prog 7 #[.agg #[.bool bia, .slice aia kia cia, .bool dia, .slice eia lia mia], .agg #[.bool bib, .slice aib kib cib, .bool dib, .slice eib lib mib], .agg #[.bool bic, .slice aic kic cic, .bool dic, .slice eic lic mic]] w fun e w' => e = .returned (.bool true) ∧ Below w.heap.size w w' := by
  by_cases hb0 : b = 0
  · exact FracField_zero a b c sa sb sc bia aia kia cia dia eia lia mia bib aib kib cib dib eib lib mib bic aic kic cic dic eic lic mic hb0 w ia ib ic
  · exact FracField_more a b c sa sb sc bia aia kia cia dia eia lia mia bib aib kib cib dib eib lib mib bic aic kic cic dic eic lic mic hb0 w ia ib ic
end Go.Proofs.YthlclegajldphaaGreat
