/- A part of the proofs about fractions. -/
import Derived.Test.YthlclegajldphaaGreatQz1
import Derived.Test.YthlclegajldphaaGreatQz2
import Derived.Test.YthlclegajldphaaGreatQz3
import Derived.Test.YthlclegajldphaaGreatQz4
import Derived.Test.YthlclegajldphaaGreatQz5
import Derived.Test.YthlclegajldphaaGreatQz6
import Derived.Test.YthlclegajldphaaGreatQz7
import Derived.Test.YthlclegajldphaaGreatQz8
import Derived.Test.YthlclegajldphaaGreatQz9
import Derived.Test.YthlclegajldphaaGreatQz10
import Derived.Test.YthlclegajldphaaGreatQz11
import Derived.Test.YthlclegajldphaaGreatQz12
import Derived.Test.YthlclegajldphaaGreatQz13
import Derived.Test.YthlclegajldphaaGreatQz14
import Derived.Test.YthlclegajldphaaGreatQz15
import Derived.Test.YthlclegajldphaaGreatQz16
import Derived.Test.YthlclegajldphaaGreatQz17
import Derived.Test.YthlclegajldphaaGreatQz18
import Derived.Test.YthlclegajldphaaGreatQz19
import Derived.Test.YthlclegajldphaaGreatQz20
import Derived.Test.YthlclegajldphaaGreatQz21
import Derived.Test.YthlclegajldphaaGreatQz22
import Derived.Test.YthlclegajldphaaGreatQz23
import Derived.Test.YthlclegajldphaaGreatQz24
import Derived.Test.YthlclegajldphaaGreatQz25
import Derived.Test.YthlclegajldphaaGreatQz26
import Derived.Test.YthlclegajldphaaGreatQz27
import Derived.Test.YthlclegajldphaaGreatQz28
import Derived.Test.YthlclegajldphaaGreatRows
namespace Go.Proofs.YthlclegajldphaaGreat
open Go.RowKit Wh
theorem sgn_same (s : Int) (h : s = -1 ∨ s = 0 ∨ s = 1) : IntKind.i64.wrap s = s := by
  rcases h with rfl | rfl | rfl <;> decide
set_option maxRecDepth 100000 in
set_option maxHeartbeats 8000000 in
theorem FracOrder_l (a b c : Rat) (sa : Fz 40 40 a) (sb : Fz 40 40 b) (sc : Fz 40 40 c) (bia : Bool) (aia : Option Addr) (kia cia : Nat) (dia : Bool) (eia : Option Addr) (lia mia : Nat) (bib : Bool) (aib : Option Addr) (kib cib : Nat) (dib : Bool) (eib : Option Addr) (lib mib : Nat) (bic : Bool) (aic : Option Addr) (kic cic : Nat) (dic : Bool) (eic : Option Addr) (lic mic : Nat) (hab : a < b) (w : World) (ia : Fra w (.agg #[.bool bia, .slice aia kia cia, .bool dia, .slice eia lia mia]) a) (ib : Fra w (.agg #[.bool bib, .slice aib kib cib, .bool dib, .slice eib lib mib]) b) (ic : Fra w (.agg #[.bool bic, .slice aic kic cic, .bool dic, .slice eic lic mic]) c) :
    Calls Tryz.prog 9 #[.agg #[.bool bia, .slice aia kia cia, .bool dia, .slice eia lia mia], .agg #[.bool bib, .slice aib kib cib, .bool dib, .slice eib lib mib], .agg #[.bool bic, .slice aic kic cic, .bool dic, .slice eic lic mic]] w fun e w' => e = .returned (.bool true) ∧ Below w.heap.size w w' := by
  have q1 : IntKind.i64.wrap 1 = 1 := by decide
  have q2 : IntKind.i64.wrap (-1) = -1 := by decide
  have q3 : IntKind.i64.wrap 0 = 0 := by decide
  have q4 : IntKind.i64.wrap (- -1) = 1 := by decide
  have q5 : IntKind.i64.wrap (-0) = 0 := by decide
  have hs := sgn_wrap (cmpR c 0) (cmpR_range c 0)
  have q10 := sgn_same (cmpR c 0) (cmpR_range c 0)
  have hm := mul_sgn a b c
  obtain ⟨s, es⟩ : ∃ s, s = cmpR c 0 := ⟨_, rfl⟩
  rw [← es] at hs hm q10
  obtain ⟨q6, q7, q8, q9⟩ := hs
  have HAB := Lib.hid hab
  have hmul : cmpR (a * c) (b * c) = -s := hm.1 hab
  have HK0 := Lib.hid (fun W => frFromInt_lit 0 (0) (by decide +kernel) (by decide) (by decide) W)
  have HK1 := Lib.hid (fun vx vy W (h : Fra W vx (a)) (g : Fra W vy (b)) => frCmp_lit vx vy (a) (b) (-1) (cmpR_lt hab) (Fz.mono (q := a) sa (by decide) (by decide)) (Fz.mono (q := b) sb (by decide) (by decide)) W h g)
  have HK2 := Lib.hid (fun vx vy W (h : Fra W vx (c)) (g : Fra W vy (0)) => frCmp_lit vx vy (c) (0) (s) es.symm (Fz.mono (q := c) sc (by decide) (by decide)) (Fz.mono (q := 0) Fz.zero (by decide) (by decide)) W h g)
  have HK3 := Lib.hid (fun vx vy W (h : Fra W vx (b)) (g : Fra W vy (a)) => frCmp_lit vx vy (b) (a) (1) (cmpR_gt hab) (Fz.mono (q := b) sb (by decide) (by decide)) (Fz.mono (q := a) sa (by decide) (by decide)) W h g)
  have HK4 := Lib.hid (fun vx vy W (h : Fra W vx (a)) (g : Fra W vy (b)) => law2_less_any vx vy (a) (b) (a - b) rfl (Fz.mono (q := a) sa (by decide) (by decide)) (Fz.mono (q := b) sb (by decide) (by decide)) (Fz.mono (q := (a - b)) (Fz.sub sa sb) (by decide) (by decide)) W h g)
  have HK5 := Lib.hid (fun vx vy W (h : Fra W vx (a - b)) (g : Fra W vy (0)) => frCmp_lit vx vy (a - b) (0) (-1) (cmpR_lt (by grind)) (Fz.mono (q := (a - b)) (Fz.sub sa sb) (by decide) (by decide)) (Fz.mono (q := 0) Fz.zero (by decide) (by decide)) W h g)
  have HK6 := Lib.hid (fun vx vy W (h : Fra W vx (a)) (g : Fra W vy (c)) => law2_sum_any vx vy (a) (c) (a + c) rfl (Fz.mono (q := a) sa (by decide) (by decide)) (Fz.mono (q := c) sc (by decide) (by decide)) (Fz.mono (q := (a + c)) (Fz.add sa sc) (by decide) (by decide)) W h g)
  have HK7 := Lib.hid (fun vx vy W (h : Fra W vx (b)) (g : Fra W vy (c)) => law2_sum_any vx vy (b) (c) (b + c) rfl (Fz.mono (q := b) sb (by decide) (by decide)) (Fz.mono (q := c) sc (by decide) (by decide)) (Fz.mono (q := (b + c)) (Fz.add sb sc) (by decide) (by decide)) W h g)
  have HK8 := Lib.hid (fun vx vy W (h : Fra W vx (a + c)) (g : Fra W vy (b + c)) => frCmp_lit vx vy (a + c) (b + c) (-1) (cmpR_lt (by grind)) (Fz.mono (q := (a + c)) (Fz.add sa sc) (by decide) (by decide)) (Fz.mono (q := (b + c)) (Fz.add sb sc) (by decide) (by decide)) W h g)
  have HK9 := Lib.hid (fun vx vy W (h : Fra W vx (a)) (g : Fra W vy (c)) => law2_product_any vx vy (a) (c) (a * c) rfl (Fz.mono (q := a) sa (by decide) (by decide)) (Fz.mono (q := c) sc (by decide) (by decide)) (Fz.mono (q := (a * c)) (Fz.mul sa sc) (by decide) (by decide)) W h g)
  have HK10 := Lib.hid (fun vx vy W (h : Fra W vx (b)) (g : Fra W vy (c)) => law2_product_any vx vy (b) (c) (b * c) rfl (Fz.mono (q := b) sb (by decide) (by decide)) (Fz.mono (q := c) sc (by decide) (by decide)) (Fz.mono (q := (b * c)) (Fz.mul sb sc) (by decide) (by decide)) W h g)
  have HK11 := Lib.hid (fun vx vy W (h : Fra W vx (a * c)) (g : Fra W vy (b * c)) => frCmp_lit vx vy (a * c) (b * c) (-s) hmul (Fz.mono (q := (a * c)) (Fz.mul sa sc) (by decide) (by decide)) (Fz.mono (q := (b * c)) (Fz.mul sb sc) (by decide) (by decide)) W h g)
  have HT := Lib.hid (fun vx vy W (h : Fra W vx b) (g : Fra W vy c) => frCmp_lit vx vy b c _ rfl (Fz.mono (q := b) sb (by decide) (by decide)) (Fz.mono (q := c) sc (by decide) (by decide)) W h g)
  clear es hm hmul
  have hB := Below.refl w.heap.size w
  obtain ⟨al, xia, hN⟩ := mk hB #[.bool bia, .slice aia kia cia, .bool dia, .slice eia lia mia] 26
  replace ia := ia.on al
  replace ib := ib.on al
  replace ic := ic.on al
  replace hB := hN
  clear al hN
  try simp only [World.size_alloc] at xia
  obtain ⟨al, xib, hN⟩ := mk hB #[.bool bib, .slice aib kib cib, .bool dib, .slice eib lib mib] 26
  replace xia := xia.on al
  replace ia := ia.on al
  replace ib := ib.on al
  replace ic := ic.on al
  replace hB := hN
  clear al hN
  try simp only [World.size_alloc] at xib
  obtain ⟨al, xic, hN⟩ := mk hB #[.bool bic, .slice aic kic cic, .bool dic, .slice eic lic mic] 26
  replace xia := xia.on al
  replace xib := xib.on al
  replace ia := ia.on al
  replace ib := ib.on al
  replace ic := ic.on al
  replace hB := hN
  clear al hN
  try simp only [World.size_alloc] at xic
  go_enter Tryz.func9, Tryz.ntmps9
  go_wp2_with fail
  refine (law2_awake_any _).mono ?_
  rintro e w1 ⟨rfl, hb⟩
  replace xia := xia.on hb
  replace xib := xib.on hb
  replace xic := xic.on hb
  replace ia := ia.on hb
  replace ib := ib.on hb
  replace ic := ic.on hb
  have hz1 := hb.size
  try simp at hz1
  replace hB := hB.trans (hb.mono hB.size)
  clear hb
  have pia := xia.all4
  have pib := xib.all4
  have pic := xic.all4
  have ltia := xia.lt
  have ltib := xib.lt
  have ltic := xic.lt
  go_wp2_with fail
  clear ltia
  clear ltib
  clear ltic
  clear pia pib pic
  have hb := ((Below.refl w1.heap.size w1).alloc (Nat.le_refl _) (.cells #[.bool bia, .slice aia kia cia, .bool dia, .slice eia lia mia, .bool bib, .slice aib kib cib, .bool dib, .slice eib lib mib, .bool bic, .slice aic kic cic, .bool dic, .slice eic lic mic] 26))
  have xrow : Bk _ w1.heap.size #[.bool bia, .slice aia kia cia, .bool dia, .slice eia lia mia, .bool bib, .slice aib kib cib, .bool dib, .slice eib lib mib, .bool bic, .slice aic kic cic, .bool dic, .slice eic lic mic] 26 := (Bk.new w1 #[.bool bia, .slice aia kia cia, .bool dia, .slice eia lia mia, .bool bib, .slice aib kib cib, .bool dib, .slice eib lib mib, .bool bic, .slice aic kic cic, .bool dic, .slice eic lic mic] 26)
  replace xia := xia.on hb
  replace xib := xib.on hb
  replace xic := xic.on hb
  replace ia := ia.on hb
  replace ib := ib.on hb
  replace ic := ic.on hb
  replace hB := hB.trans (hb.mono hB.size)
  clear hb
  have rw0 := xrow.cell 0
  have rw1 := xrow.cell 1
  have rw2 := xrow.cell 2
  have rw3 := xrow.cell 3
  have rw4 := xrow.cell 4
  have rw5 := xrow.cell 5
  have rw6 := xrow.cell 6
  have rw7 := xrow.cell 7
  have rw8 := xrow.cell 8
  have rw9 := xrow.cell 9
  have rw10 := xrow.cell 10
  have rw11 := xrow.cell 11
  simp only [List.getElem?_toArray, List.getElem?_cons_zero, List.getElem?_cons_succ] at rw0 rw1 rw2 rw3 rw4 rw5 rw6 rw7 rw8 rw9 rw10 rw11
  refine (usable3_fra w1.heap.size a b c bia aia kia cia dia eia lia mia bib aib kib cib dib eib lib mib bic aic kic cic dic eic lic mic _ rw0 rw1 rw2 rw3 rw4 rw5 rw6 rw7 rw8 rw9 rw10 rw11 ia ib ic sa sb sc).mono ?_
  rintro e w2 ⟨rfl, hb⟩
  clear xrow rw0 rw1 rw2 rw3 rw4 rw5 rw6 rw7 rw8 rw9 rw10 rw11
  replace xia := xia.on hb
  replace xib := xib.on hb
  replace xic := xic.on hb
  replace ia := ia.on hb
  replace ib := ib.on hb
  replace ic := ic.on hb
  replace hB := hB.trans (hb.mono hB.size)
  clear hb
  have pia := xia.all4
  have pib := xib.all4
  have pic := xic.all4
  have ltia := xia.lt
  have ltib := xib.lt
  have ltic := xic.lt
  go_wp2_with fail
  clear ltia
  clear ltib
  clear ltic
  clear pia pib pic
  refine (HK0.out _).mono ?_
  rintro e w3 ⟨⟨vgz, rfl, gz⟩, hb⟩
  replace xia := xia.on hb
  replace xib := xib.on hb
  replace xic := xic.on hb
  replace ia := ia.on hb
  replace ib := ib.on hb
  replace ic := ic.on hb
  have hz3 := hb.size
  try simp at hz3
  replace hB := hB.trans (hb.mono hB.size)
  clear hb
  obtain ⟨bz, az, kz, cz, dz, ez, lz, mz, rfl⟩ := gz.opened
  go_wp2_with fail
  have hb := ((Below.refl w3.heap.size w3).alloc (Nat.le_refl _) (.cells #[.bool bz, .slice az kz cz, .bool dz, .slice ez lz mz] 26))
  have xzero : Bk _ w3.heap.size #[.bool bz, .slice az kz cz, .bool dz, .slice ez lz mz] 26 := (Bk.new w3 #[.bool bz, .slice az kz cz, .bool dz, .slice ez lz mz] 26)
  replace xia := xia.on hb
  replace xib := xib.on hb
  replace xic := xic.on hb
  replace ia := ia.on hb
  replace ib := ib.on hb
  replace ic := ic.on hb
  replace gz := gz.on hb
  replace hB := hB.trans (hb.mono hB.size)
  clear hb
  obtain ⟨wa, hwa⟩ : ∃ W, W = (w3.alloc (.cells #[.bool bz, .slice az kz cz, .bool dz, .slice ez lz mz] 26)) := ⟨_, rfl⟩
  rw [← hwa] at hB xia xib xic xzero ia ib ic gz ⊢
  clear hwa
  have qia := xia.lt
  have qib := xib.lt
  have qic := xic.lt
  have qzero := xzero.lt
  obtain ⟨gia0, gia1, gia2, gia3⟩ := xia.cells4
  obtain ⟨gib0, gib1, gib2, gib3⟩ := xib.cells4
  obtain ⟨gic0, gic1, gic2, gic3⟩ := xic.cells4
  obtain ⟨gzero0, gzero1, gzero2, gzero3⟩ := xzero.cells4
  refine wp_region_noPanic ?_
  refine wp_region_held_drew (S := (fun w' => (w'.cell? ⟨w.heap.size, 0, none⟩ = some (.bool bia) ∧ w'.cell? ⟨w.heap.size, 1, none⟩ = some (.slice aia kia cia) ∧ w'.cell? ⟨w.heap.size, 2, none⟩ = some (.bool dia) ∧ w'.cell? ⟨w.heap.size, 3, none⟩ = some (.slice eia lia mia)) ∧ (w'.cell? ⟨w.heap.size + 1, 0, none⟩ = some (.bool bib) ∧ w'.cell? ⟨w.heap.size + 1, 1, none⟩ = some (.slice aib kib cib) ∧ w'.cell? ⟨w.heap.size + 1, 2, none⟩ = some (.bool dib) ∧ w'.cell? ⟨w.heap.size + 1, 3, none⟩ = some (.slice eib lib mib)) ∧ (w'.cell? ⟨w.heap.size + 1 + 1, 0, none⟩ = some (.bool bic) ∧ w'.cell? ⟨w.heap.size + 1 + 1, 1, none⟩ = some (.slice aic kic cic) ∧ w'.cell? ⟨w.heap.size + 1 + 1, 2, none⟩ = some (.bool dic) ∧ w'.cell? ⟨w.heap.size + 1 + 1, 3, none⟩ = some (.slice eic lic mic)) ∧ w'.cell? ⟨w3.heap.size, 0, none⟩ = some (.bool bz) ∧ w'.cell? ⟨w3.heap.size, 1, none⟩ = some (.slice az kz cz) ∧ w'.cell? ⟨w3.heap.size, 2, none⟩ = some (.bool dz) ∧ w'.cell? ⟨w3.heap.size, 3, none⟩ = some (.slice ez lz mz))) (by kernel_rfl) ⟨⟨gia0, gia1, gia2, gia3⟩, ⟨gib0, gib1, gib2, gib3⟩, ⟨gic0, gic1, gic2, gic3⟩, ⟨gzero0, gzero1, gzero2, gzero3⟩⟩ (fun hR0 => ?_)
  change wpAnyH _ _ _ _ _ 8 #[false, false, false, false, false, false, false, false] _ _
  clear gia0 gia1 gia2 gia3 gib0 gib1 gib2 gib3 gic0 gic1 gic2 gic3 gzero0 gzero1 gzero2 gzero3
  refine tk (i := 0) (v := ?_) rfl (by kernel_rfl) (fun _ _ _ h => h) (by rfl) ?_ (by assumption) ?_
  rotate_left 1
  · (intro w hSw; (try dsimp only at hSw); go_simp <;> (with_reducible rfl))
  (first | ((fail_if_success (unfold Act.put)); (try simp only [List.setIfInBounds_toArray, List.set])) | (try simp only [Act.put, List.setIfInBounds_toArray, List.set]))
  refine tk (i := 1) (v := ?_) rfl (by kernel_rfl) (fun _ _ _ h => h) (by rfl) ?_ (by assumption) ?_
  rotate_left 1
  · (intro w hSw; (try dsimp only at hSw); go_simp <;> (with_reducible rfl))
  (first | ((fail_if_success (unfold Act.put)); (try simp only [List.setIfInBounds_toArray, List.set])) | (try simp only [Act.put, List.setIfInBounds_toArray, List.set]))
  refine tk (i := 3) (v := ?_) rfl (by kernel_rfl) (fun _ _ _ h => h) (by rfl) ?_ (by assumption) ?_
  rotate_left 1
  · (intro w hSw; (try dsimp only at hSw); go_simp <;> (with_reducible rfl))
  (first | ((fail_if_success (unfold Act.put)); (try simp only [List.setIfInBounds_toArray, List.set])) | (try simp only [Act.put, List.setIfInBounds_toArray, List.set]))
  refine tk (i := 4) (v := ?_) rfl (by kernel_rfl) (fun _ _ _ h => h) (by rfl) ?_ (by assumption) ?_
  rotate_left 1
  · (intro w hSw; (try dsimp only at hSw); go_simp <;> (with_reducible rfl))
  (first | ((fail_if_success (unfold Act.put)); (try simp only [List.setIfInBounds_toArray, List.set])) | (try simp only [Act.put, List.setIfInBounds_toArray, List.set]))
  refine rd1 (i := 2) (by kernel_rfl) rfl (fun K hK => ?_)
  go_simp
  go_at_call 52; have hBd := hB.drew; refine (HK1.out _ _ _ (by exact ia) (by exact ib)).mono ?_; rintro e w4 ⟨rfl, hb⟩; replace hb := (Below.refl wa.heap.size wa).drew.trans hb; replace xia := xia.on hb; replace xib := xib.on hb; replace xic := xic.on hb; replace xzero := xzero.on hb; replace ia := ia.on hb; replace ib := ib.on hb; replace ic := ic.on hb; replace gz := gz.on hb; replace hB := hB.trans (hb.mono hB.size); have hz4 := hb.size
  (try go_wp2_with fail)
  refine hK.out _ _ (⟨keep4 hb qia hR0.1, keep4 hb qib hR0.2.1, keep4 hb qic hR0.2.2.1, keep4 hb qzero hR0.2.2.2⟩) (fun hR1 => ?_)
  clear hK K hR0
  (first | ((fail_if_success (unfold Act.put)); (try simp only [List.setIfInBounds_toArray, List.set])) | (try simp only [Act.put, List.setIfInBounds_toArray, List.set]))
  replace qia := Nat.lt_of_lt_of_le qia hz4
  replace qib := Nat.lt_of_lt_of_le qib hz4
  replace qic := Nat.lt_of_lt_of_le qic hz4
  replace qzero := Nat.lt_of_lt_of_le qzero hz4
  clear hb hBd
  refine rd1 (i := 5) (by kernel_rfl) rfl (fun K hK => ?_)
  go_simp
  go_at_call 52; have hBd := hB; refine (HK2.out _ _ _ ic gz).mono ?_; rintro e w5 ⟨rfl, hb⟩; replace xia := xia.on hb; replace xib := xib.on hb; replace xic := xic.on hb; replace xzero := xzero.on hb; replace ia := ia.on hb; replace ib := ib.on hb; replace ic := ic.on hb; replace gz := gz.on hb; replace hB := hB.trans (hb.mono hB.size); have hz5 := hb.size
  (try go_wp2_with fail)
  refine hK.out _ _ (⟨keep4 hb qia hR1.1, keep4 hb qib hR1.2.1, keep4 hb qic hR1.2.2.1, keep4 hb qzero hR1.2.2.2⟩) (fun hR2 => ?_)
  clear hK K hR1
  (first | ((fail_if_success (unfold Act.put)); (try simp only [List.setIfInBounds_toArray, List.set])) | (try simp only [Act.put, List.setIfInBounds_toArray, List.set]))
  replace qia := Nat.lt_of_lt_of_le qia hz5
  replace qib := Nat.lt_of_lt_of_le qib hz5
  replace qic := Nat.lt_of_lt_of_le qic hz5
  replace qzero := Nat.lt_of_lt_of_le qzero hz5
  clear hb hBd
  refine tk (i := 6) (v := ?_) rfl (by kernel_rfl) (fun _ _ _ h => h) (by rfl) ?_ (by assumption) ?_
  rotate_left 1
  · (intro w hSw; (try dsimp only at hSw); go_simp <;> (with_reducible rfl))
  (first | ((fail_if_success (unfold Act.put)); (try simp only [List.setIfInBounds_toArray, List.set])) | (try simp only [Act.put, List.setIfInBounds_toArray, List.set]))
  refine tk (i := 7) (v := ?_) rfl (by kernel_rfl) (fun _ _ _ h => h) (by rfl) ?_ (by assumption) ?_
  rotate_left 1
  · (intro w hSw; (try dsimp only at hSw); go_simp <;> (with_reducible rfl))
  (first | ((fail_if_success (unfold Act.put)); (try simp only [List.setIfInBounds_toArray, List.set])) | (try simp only [Act.put, List.setIfInBounds_toArray, List.set]))
  refine wpAnyH_done (by kernel_rfl) ?_ _
  refine NoPanic.normal ?_
  clear hR2
  clear qia qib qic qzero
  go_wp2_with fail
  obtain ⟨wb, hwb⟩ : ∃ W, W = w5 := ⟨_, rfl⟩
  rw [← hwb] at hB xia xib xic xzero ia ib ic gz ⊢
  clear hwb
  have qia := xia.lt
  have qib := xib.lt
  have qic := xic.lt
  have qzero := xzero.lt
  obtain ⟨gia0, gia1, gia2, gia3⟩ := xia.cells4
  obtain ⟨gib0, gib1, gib2, gib3⟩ := xib.cells4
  obtain ⟨gic0, gic1, gic2, gic3⟩ := xic.cells4
  obtain ⟨gzero0, gzero1, gzero2, gzero3⟩ := xzero.cells4
  refine wp_region_noPanic ?_
  refine wp_region_held_drew (S := (fun w' => (w'.cell? ⟨w.heap.size, 0, none⟩ = some (.bool bia) ∧ w'.cell? ⟨w.heap.size, 1, none⟩ = some (.slice aia kia cia) ∧ w'.cell? ⟨w.heap.size, 2, none⟩ = some (.bool dia) ∧ w'.cell? ⟨w.heap.size, 3, none⟩ = some (.slice eia lia mia)) ∧ (w'.cell? ⟨w.heap.size + 1, 0, none⟩ = some (.bool bib) ∧ w'.cell? ⟨w.heap.size + 1, 1, none⟩ = some (.slice aib kib cib) ∧ w'.cell? ⟨w.heap.size + 1, 2, none⟩ = some (.bool dib) ∧ w'.cell? ⟨w.heap.size + 1, 3, none⟩ = some (.slice eib lib mib)) ∧ (w'.cell? ⟨w.heap.size + 1 + 1, 0, none⟩ = some (.bool bic) ∧ w'.cell? ⟨w.heap.size + 1 + 1, 1, none⟩ = some (.slice aic kic cic) ∧ w'.cell? ⟨w.heap.size + 1 + 1, 2, none⟩ = some (.bool dic) ∧ w'.cell? ⟨w.heap.size + 1 + 1, 3, none⟩ = some (.slice eic lic mic)) ∧ w'.cell? ⟨w3.heap.size, 0, none⟩ = some (.bool bz) ∧ w'.cell? ⟨w3.heap.size, 1, none⟩ = some (.slice az kz cz) ∧ w'.cell? ⟨w3.heap.size, 2, none⟩ = some (.bool dz) ∧ w'.cell? ⟨w3.heap.size, 3, none⟩ = some (.slice ez lz mz))) (by kernel_rfl) ⟨⟨gia0, gia1, gia2, gia3⟩, ⟨gib0, gib1, gib2, gib3⟩, ⟨gic0, gic1, gic2, gic3⟩, ⟨gzero0, gzero1, gzero2, gzero3⟩⟩ (fun hR0 => ?_)
  change wpAnyH _ _ _ _ _ 47 #[false, false, false, false, false, false, false, false, false, false, false, false, false, false, false, false, false, false, false, false, false, false, false, false, false, false, false, false, false, false, false, false, false, false, false, false, false, false, false, false, false, false, false, false, false, false, false] _ _
  clear gia0 gia1 gia2 gia3 gib0 gib1 gib2 gib3 gic0 gic1 gic2 gic3 gzero0 gzero1 gzero2 gzero3
  refine tk (i := 0) (v := ?_) rfl (by kernel_rfl) (fun _ _ _ h => h) (by rfl) ?_ (by assumption) ?_
  rotate_left 1
  · (intro w hSw; (try dsimp only at hSw); go_simp <;> (with_reducible rfl))
  (first | ((fail_if_success (unfold Act.put)); (try simp only [List.setIfInBounds_toArray, List.set])) | (try simp only [Act.put, List.setIfInBounds_toArray, List.set]))
  refine tk (i := 1) (v := ?_) rfl (by kernel_rfl) (fun _ _ _ h => h) (by rfl) ?_ (by assumption) ?_
  rotate_left 1
  · (intro w hSw; (try dsimp only at hSw); go_simp <;> (with_reducible rfl))
  (first | ((fail_if_success (unfold Act.put)); (try simp only [List.setIfInBounds_toArray, List.set])) | (try simp only [Act.put, List.setIfInBounds_toArray, List.set]))
  refine tk (i := 2) (v := ?_) rfl (by kernel_rfl) (fun _ _ _ h => h) (by rfl) ?_ (by assumption) ?_
  rotate_left 1
  · (intro w hSw; (try dsimp only at hSw); go_simp <;> (with_reducible rfl))
  (first | ((fail_if_success (unfold Act.put)); (try simp only [List.setIfInBounds_toArray, List.set])) | (try simp only [Act.put, List.setIfInBounds_toArray, List.set]))
  refine tk (i := 3) (v := ?_) rfl (by kernel_rfl) (fun _ _ _ h => h) (by rfl) ?_ (by assumption) ?_
  rotate_left 1
  · (intro w hSw; (try dsimp only at hSw); go_simp <;> (with_reducible rfl))
  (first | ((fail_if_success (unfold Act.put)); (try simp only [List.setIfInBounds_toArray, List.set])) | (try simp only [Act.put, List.setIfInBounds_toArray, List.set]))
  refine tk (i := 4) (v := ?_) rfl (by kernel_rfl) (fun _ _ _ h => h) (by rfl) ?_ (by assumption) ?_
  rotate_left 1
  · (intro w hSw; (try dsimp only at hSw); go_simp <;> (with_reducible rfl))
  (first | ((fail_if_success (unfold Act.put)); (try simp only [List.setIfInBounds_toArray, List.set])) | (try simp only [Act.put, List.setIfInBounds_toArray, List.set]))
  refine tk (i := 5) (v := ?_) rfl (by kernel_rfl) (fun _ _ _ h => h) (by rfl) ?_ (by assumption) ?_
  rotate_left 1
  · (intro w hSw; (try dsimp only at hSw); go_simp <;> (with_reducible rfl))
  (first | ((fail_if_success (unfold Act.put)); (try simp only [List.setIfInBounds_toArray, List.set])) | (try simp only [Act.put, List.setIfInBounds_toArray, List.set]))
  refine tk (i := 6) (v := ?_) rfl (by kernel_rfl) (fun _ _ _ h => h) (by rfl) ?_ (by assumption) ?_
  rotate_left 1
  · (intro w hSw; (try dsimp only at hSw); go_simp <;> (with_reducible rfl))
  (first | ((fail_if_success (unfold Act.put)); (try simp only [List.setIfInBounds_toArray, List.set])) | (try simp only [Act.put, List.setIfInBounds_toArray, List.set]))
  refine tk (i := 7) (v := ?_) rfl (by kernel_rfl) (fun _ _ _ h => h) (by rfl) ?_ (by assumption) ?_
  rotate_left 1
  · (intro w hSw; (try dsimp only at hSw); go_simp <;> (with_reducible rfl))
  (first | ((fail_if_success (unfold Act.put)); (try simp only [List.setIfInBounds_toArray, List.set])) | (try simp only [Act.put, List.setIfInBounds_toArray, List.set]))
  refine tk (i := 8) (v := ?_) rfl (by kernel_rfl) (fun _ _ _ h => h) (by rfl) ?_ (by assumption) ?_
  rotate_left 1
  · (intro w hSw; (try dsimp only at hSw); go_simp <;> (with_reducible rfl))
  (first | ((fail_if_success (unfold Act.put)); (try simp only [List.setIfInBounds_toArray, List.set])) | (try simp only [Act.put, List.setIfInBounds_toArray, List.set]))
  refine tk (i := 10) (v := ?_) rfl (by kernel_rfl) (fun _ _ _ h => h) (by rfl) ?_ (by assumption) ?_
  rotate_left 1
  · (intro w hSw; (try dsimp only at hSw); go_simp <;> (with_reducible rfl))
  (first | ((fail_if_success (unfold Act.put)); (try simp only [List.setIfInBounds_toArray, List.set])) | (try simp only [Act.put, List.setIfInBounds_toArray, List.set]))
  refine tk (i := 11) (v := ?_) rfl (by kernel_rfl) (fun _ _ _ h => h) (by rfl) ?_ (by assumption) ?_
  rotate_left 1
  · (intro w hSw; (try dsimp only at hSw); go_simp <;> (with_reducible rfl))
  (first | ((fail_if_success (unfold Act.put)); (try simp only [List.setIfInBounds_toArray, List.set])) | (try simp only [Act.put, List.setIfInBounds_toArray, List.set]))
  refine rd1 (i := 9) (by kernel_rfl) rfl (fun K hK => ?_)
  go_simp
  go_at_call 52; have hBd := hB.drew; refine (HK3.out _ _ _ (by exact ib) (by exact ia)).mono ?_; rintro e w6 ⟨rfl, hb⟩; replace hb := (Below.refl wb.heap.size wb).drew.trans hb; replace xia := xia.on hb; replace xib := xib.on hb; replace xic := xic.on hb; replace xzero := xzero.on hb; replace ia := ia.on hb; replace ib := ib.on hb; replace ic := ic.on hb; replace gz := gz.on hb; replace hB := hB.trans (hb.mono hB.size); have hz6 := hb.size
  (try go_wp2_with fail)
  refine hK.out _ _ (⟨keep4 hb qia hR0.1, keep4 hb qib hR0.2.1, keep4 hb qic hR0.2.2.1, keep4 hb qzero hR0.2.2.2⟩) (fun hR1 => ?_)
  clear hK K hR0
  (first | ((fail_if_success (unfold Act.put)); (try simp only [List.setIfInBounds_toArray, List.set])) | (try simp only [Act.put, List.setIfInBounds_toArray, List.set]))
  replace qia := Nat.lt_of_lt_of_le qia hz6
  replace qib := Nat.lt_of_lt_of_le qib hz6
  replace qic := Nat.lt_of_lt_of_le qic hz6
  replace qzero := Nat.lt_of_lt_of_le qzero hz6
  clear hb hBd
  refine tk (i := 12) (v := ?_) rfl (by kernel_rfl) (fun _ _ _ h => h) (by rfl) ?_ (by assumption) ?_
  rotate_left 1
  · (intro w hSw; (try dsimp only at hSw); go_simp <;> (with_reducible rfl))
  (first | ((fail_if_success (unfold Act.put)); (try simp only [List.setIfInBounds_toArray, List.set])) | (try simp only [Act.put, List.setIfInBounds_toArray, List.set]))
  refine tk (i := 13) (v := ?_) rfl (by kernel_rfl) (fun _ _ _ h => h) (by rfl) ?_ (by assumption) ?_
  rotate_left 1
  · (intro w hSw; (try dsimp only at hSw); go_simp <;> (with_reducible rfl))
  (first | ((fail_if_success (unfold Act.put)); (try simp only [List.setIfInBounds_toArray, List.set])) | (try simp only [Act.put, List.setIfInBounds_toArray, List.set]))
  refine tk (i := 14) (v := ?_) rfl (by kernel_rfl) (fun _ _ _ h => h) (by rfl) ?_ (by assumption) ?_
  rotate_left 1
  · (intro w hSw; (try dsimp only at hSw); go_simp <;> (with_reducible rfl))
  (first | ((fail_if_success (unfold Act.put)); (try simp only [List.setIfInBounds_toArray, List.set])) | (try simp only [Act.put, List.setIfInBounds_toArray, List.set]))
  refine tk (i := 15) (v := ?_) rfl (by kernel_rfl) (fun _ _ _ h => h) (by rfl) ?_ (by assumption) ?_
  rotate_left 1
  · (intro w hSw; (try dsimp only at hSw); go_simp <;> (with_reducible rfl))
  (first | ((fail_if_success (unfold Act.put)); (try simp only [List.setIfInBounds_toArray, List.set])) | (try simp only [Act.put, List.setIfInBounds_toArray, List.set]))
  refine tk (i := 16) (v := ?_) rfl (by kernel_rfl) (fun _ _ _ h => h) (by rfl) ?_ (by assumption) ?_
  rotate_left 1
  · (intro w hSw; (try dsimp only at hSw); go_simp <;> (with_reducible rfl))
  (first | ((fail_if_success (unfold Act.put)); (try simp only [List.setIfInBounds_toArray, List.set])) | (try simp only [Act.put, List.setIfInBounds_toArray, List.set]))
  refine tk (i := 18) (v := ?_) rfl (by kernel_rfl) (fun _ _ _ h => h) (by rfl) ?_ (by assumption) ?_
  rotate_left 1
  · (intro w hSw; (try dsimp only at hSw); go_simp <;> (with_reducible rfl))
  (first | ((fail_if_success (unfold Act.put)); (try simp only [List.setIfInBounds_toArray, List.set])) | (try simp only [Act.put, List.setIfInBounds_toArray, List.set]))
  refine tk (i := 20) (v := ?_) rfl (by kernel_rfl) (fun _ _ _ h => h) (by rfl) ?_ (by assumption) ?_
  rotate_left 1
  · (intro w hSw; (try dsimp only at hSw); go_simp <;> (with_reducible rfl))
  (first | ((fail_if_success (unfold Act.put)); (try simp only [List.setIfInBounds_toArray, List.set])) | (try simp only [Act.put, List.setIfInBounds_toArray, List.set]))
  refine rd1 (i := 17) (by kernel_rfl) rfl (fun K hK => ?_)
  go_simp
  go_at_call 46; have hBd := hB; refine (HK4.out _ _ _ ia ib).mono ?_; rintro e w7 ⟨⟨vg1, rfl, g1⟩, hb⟩; replace xia := xia.on hb; replace xib := xib.on hb; replace xic := xic.on hb; replace xzero := xzero.on hb; replace ia := ia.on hb; replace ib := ib.on hb; replace ic := ic.on hb; replace gz := gz.on hb; replace hB := hB.trans (hb.mono hB.size); have hz7 := hb.size
  (try go_wp2_with fail)
  refine hK.out _ _ (⟨keep4 hb qia hR1.1, keep4 hb qib hR1.2.1, keep4 hb qic hR1.2.2.1, keep4 hb qzero hR1.2.2.2⟩) (fun hR2 => ?_)
  clear hK K hR1
  (first | ((fail_if_success (unfold Act.put)); (try simp only [List.setIfInBounds_toArray, List.set])) | (try simp only [Act.put, List.setIfInBounds_toArray, List.set]))
  replace qia := Nat.lt_of_lt_of_le qia hz7
  replace qib := Nat.lt_of_lt_of_le qib hz7
  replace qic := Nat.lt_of_lt_of_le qic hz7
  replace qzero := Nat.lt_of_lt_of_le qzero hz7
  clear hb hBd
  refine rd1 (i := 19) (by kernel_rfl) rfl (fun K hK => ?_)
  go_simp
  go_at_call 52; have hBd := hB; refine (HK5.out _ _ _ g1 gz).mono ?_; rintro e w8 ⟨rfl, hb⟩; replace xia := xia.on hb; replace xib := xib.on hb; replace xic := xic.on hb; replace xzero := xzero.on hb; replace ia := ia.on hb; replace ib := ib.on hb; replace ic := ic.on hb; replace gz := gz.on hb; replace g1 := g1.on hb; replace hB := hB.trans (hb.mono hB.size); have hz8 := hb.size
  (try go_wp2_with fail)
  refine hK.out _ _ (⟨keep4 hb qia hR2.1, keep4 hb qib hR2.2.1, keep4 hb qic hR2.2.2.1, keep4 hb qzero hR2.2.2.2⟩) (fun hR3 => ?_)
  clear hK K hR2
  (first | ((fail_if_success (unfold Act.put)); (try simp only [List.setIfInBounds_toArray, List.set])) | (try simp only [Act.put, List.setIfInBounds_toArray, List.set]))
  replace qia := Nat.lt_of_lt_of_le qia hz8
  replace qib := Nat.lt_of_lt_of_le qib hz8
  replace qic := Nat.lt_of_lt_of_le qic hz8
  replace qzero := Nat.lt_of_lt_of_le qzero hz8
  clear hb hBd
  refine tk (i := 21) (v := ?_) rfl (by kernel_rfl) (fun _ _ _ h => h) (by rfl) ?_ (by assumption) ?_
  rotate_left 1
  · (intro w hSw; (try dsimp only at hSw); go_simp <;> (with_reducible rfl))
  (first | ((fail_if_success (unfold Act.put)); (try simp only [List.setIfInBounds_toArray, List.set])) | (try simp only [Act.put, List.setIfInBounds_toArray, List.set]))
  refine tk (i := 22) (v := ?_) rfl (by kernel_rfl) (fun _ _ _ h => h) (by rfl) ?_ (by assumption) ?_
  rotate_left 1
  · (intro w hSw; (try dsimp only at hSw); go_simp <;> (with_reducible rfl))
  (first | ((fail_if_success (unfold Act.put)); (try simp only [List.setIfInBounds_toArray, List.set])) | (try simp only [Act.put, List.setIfInBounds_toArray, List.set]))
  refine tk (i := 23) (v := ?_) rfl (by kernel_rfl) (fun _ _ _ h => h) (by rfl) ?_ (by assumption) ?_
  rotate_left 1
  · (intro w hSw; (try dsimp only at hSw); go_simp <;> (with_reducible rfl))
  (first | ((fail_if_success (unfold Act.put)); (try simp only [List.setIfInBounds_toArray, List.set])) | (try simp only [Act.put, List.setIfInBounds_toArray, List.set]))
  refine tk (i := 24) (v := ?_) rfl (by kernel_rfl) (fun _ _ _ h => h) (by rfl) ?_ (by assumption) ?_
  rotate_left 1
  · (intro w hSw; (try dsimp only at hSw); go_simp <;> (with_reducible rfl))
  (first | ((fail_if_success (unfold Act.put)); (try simp only [List.setIfInBounds_toArray, List.set])) | (try simp only [Act.put, List.setIfInBounds_toArray, List.set]))
  refine tk (i := 25) (v := ?_) rfl (by kernel_rfl) (fun _ _ _ h => h) (by rfl) ?_ (by assumption) ?_
  rotate_left 1
  · (intro w hSw; (try dsimp only at hSw); go_simp <;> (with_reducible rfl))
  (first | ((fail_if_success (unfold Act.put)); (try simp only [List.setIfInBounds_toArray, List.set])) | (try simp only [Act.put, List.setIfInBounds_toArray, List.set]))
  refine tk (i := 27) (v := ?_) rfl (by kernel_rfl) (fun _ _ _ h => h) (by rfl) ?_ (by assumption) ?_
  rotate_left 1
  · (intro w hSw; (try dsimp only at hSw); go_simp <;> (with_reducible rfl))
  (first | ((fail_if_success (unfold Act.put)); (try simp only [List.setIfInBounds_toArray, List.set])) | (try simp only [Act.put, List.setIfInBounds_toArray, List.set]))
  refine tk (i := 28) (v := ?_) rfl (by kernel_rfl) (fun _ _ _ h => h) (by rfl) ?_ (by assumption) ?_
  rotate_left 1
  · (intro w hSw; (try dsimp only at hSw); go_simp <;> (with_reducible rfl))
  (first | ((fail_if_success (unfold Act.put)); (try simp only [List.setIfInBounds_toArray, List.set])) | (try simp only [Act.put, List.setIfInBounds_toArray, List.set]))
  refine tk (i := 31) (v := ?_) rfl (by kernel_rfl) (fun _ _ _ h => h) (by rfl) ?_ (by assumption) ?_
  rotate_left 1
  · (intro w hSw; (try dsimp only at hSw); go_simp <;> (with_reducible rfl))
  (first | ((fail_if_success (unfold Act.put)); (try simp only [List.setIfInBounds_toArray, List.set])) | (try simp only [Act.put, List.setIfInBounds_toArray, List.set]))
  refine rd1 (i := 26) (by kernel_rfl) rfl (fun K hK => ?_)
  go_simp
  go_at_call 44; have hBd := hB; refine (HK6.out _ _ _ ia ic).mono ?_; rintro e w9 ⟨⟨vg2, rfl, g2⟩, hb⟩; replace xia := xia.on hb; replace xib := xib.on hb; replace xic := xic.on hb; replace xzero := xzero.on hb; replace ia := ia.on hb; replace ib := ib.on hb; replace ic := ic.on hb; replace gz := gz.on hb; replace g1 := g1.on hb; replace hB := hB.trans (hb.mono hB.size); have hz9 := hb.size
  (try go_wp2_with fail)
  refine hK.out _ _ (⟨keep4 hb qia hR3.1, keep4 hb qib hR3.2.1, keep4 hb qic hR3.2.2.1, keep4 hb qzero hR3.2.2.2⟩) (fun hR4 => ?_)
  clear hK K hR3
  (first | ((fail_if_success (unfold Act.put)); (try simp only [List.setIfInBounds_toArray, List.set])) | (try simp only [Act.put, List.setIfInBounds_toArray, List.set]))
  replace qia := Nat.lt_of_lt_of_le qia hz9
  replace qib := Nat.lt_of_lt_of_le qib hz9
  replace qic := Nat.lt_of_lt_of_le qic hz9
  replace qzero := Nat.lt_of_lt_of_le qzero hz9
  clear hb hBd
  refine rd1 (i := 29) (by kernel_rfl) rfl (fun K hK => ?_)
  go_simp
  go_at_call 44; have hBd := hB; refine (HK7.out _ _ _ ib ic).mono ?_; rintro e w10 ⟨⟨vg3, rfl, g3⟩, hb⟩; replace xia := xia.on hb; replace xib := xib.on hb; replace xic := xic.on hb; replace xzero := xzero.on hb; replace ia := ia.on hb; replace ib := ib.on hb; replace ic := ic.on hb; replace gz := gz.on hb; replace g1 := g1.on hb; replace g2 := g2.on hb; replace hB := hB.trans (hb.mono hB.size); have hz10 := hb.size
  (try go_wp2_with fail)
  refine hK.out _ _ (⟨keep4 hb qia hR4.1, keep4 hb qib hR4.2.1, keep4 hb qic hR4.2.2.1, keep4 hb qzero hR4.2.2.2⟩) (fun hR5 => ?_)
  clear hK K hR4
  (first | ((fail_if_success (unfold Act.put)); (try simp only [List.setIfInBounds_toArray, List.set])) | (try simp only [Act.put, List.setIfInBounds_toArray, List.set]))
  replace qia := Nat.lt_of_lt_of_le qia hz10
  replace qib := Nat.lt_of_lt_of_le qib hz10
  replace qic := Nat.lt_of_lt_of_le qic hz10
  replace qzero := Nat.lt_of_lt_of_le qzero hz10
  clear hb hBd
  refine rd1 (i := 30) (by kernel_rfl) rfl (fun K hK => ?_)
  go_simp
  go_at_call 52; have hBd := hB; refine (HK8.out _ _ _ g2 g3).mono ?_; rintro e w11 ⟨rfl, hb⟩; replace xia := xia.on hb; replace xib := xib.on hb; replace xic := xic.on hb; replace xzero := xzero.on hb; replace ia := ia.on hb; replace ib := ib.on hb; replace ic := ic.on hb; replace gz := gz.on hb; replace g1 := g1.on hb; replace g2 := g2.on hb; replace g3 := g3.on hb; replace hB := hB.trans (hb.mono hB.size); have hz11 := hb.size
  (try go_wp2_with fail)
  refine hK.out _ _ (⟨keep4 hb qia hR5.1, keep4 hb qib hR5.2.1, keep4 hb qic hR5.2.2.1, keep4 hb qzero hR5.2.2.2⟩) (fun hR6 => ?_)
  clear hK K hR5
  (first | ((fail_if_success (unfold Act.put)); (try simp only [List.setIfInBounds_toArray, List.set])) | (try simp only [Act.put, List.setIfInBounds_toArray, List.set]))
  replace qia := Nat.lt_of_lt_of_le qia hz11
  replace qib := Nat.lt_of_lt_of_le qib hz11
  replace qic := Nat.lt_of_lt_of_le qic hz11
  replace qzero := Nat.lt_of_lt_of_le qzero hz11
  clear hb hBd
  refine tk (i := 32) (v := ?_) rfl (by kernel_rfl) (fun _ _ _ h => h) (by rfl) ?_ (by assumption) ?_
  rotate_left 1
  · (intro w hSw; (try dsimp only at hSw); go_simp <;> (with_reducible rfl))
  (first | ((fail_if_success (unfold Act.put)); (try simp only [List.setIfInBounds_toArray, List.set])) | (try simp only [Act.put, List.setIfInBounds_toArray, List.set]))
  refine tk (i := 33) (v := ?_) rfl (by kernel_rfl) (fun _ _ _ h => h) (by rfl) ?_ (by assumption) ?_
  rotate_left 1
  · (intro w hSw; (try dsimp only at hSw); go_simp <;> (with_reducible rfl))
  (first | ((fail_if_success (unfold Act.put)); (try simp only [List.setIfInBounds_toArray, List.set])) | (try simp only [Act.put, List.setIfInBounds_toArray, List.set]))
  refine tk (i := 34) (v := ?_) rfl (by kernel_rfl) (fun _ _ _ h => h) (by rfl) ?_ (by assumption) ?_
  rotate_left 1
  · (intro w hSw; (try dsimp only at hSw); go_simp <;> (with_reducible rfl))
  (first | ((fail_if_success (unfold Act.put)); (try simp only [List.setIfInBounds_toArray, List.set])) | (try simp only [Act.put, List.setIfInBounds_toArray, List.set]))
  refine tk (i := 35) (v := ?_) rfl (by kernel_rfl) (fun _ _ _ h => h) (by rfl) ?_ (by assumption) ?_
  rotate_left 1
  · (intro w hSw; (try dsimp only at hSw); go_simp <;> (with_reducible rfl))
  (first | ((fail_if_success (unfold Act.put)); (try simp only [List.setIfInBounds_toArray, List.set])) | (try simp only [Act.put, List.setIfInBounds_toArray, List.set]))
  refine tk (i := 36) (v := ?_) rfl (by kernel_rfl) (fun _ _ _ h => h) (by rfl) ?_ (by assumption) ?_
  rotate_left 1
  · (intro w hSw; (try dsimp only at hSw); go_simp <;> (with_reducible rfl))
  (first | ((fail_if_success (unfold Act.put)); (try simp only [List.setIfInBounds_toArray, List.set])) | (try simp only [Act.put, List.setIfInBounds_toArray, List.set]))
  refine tk (i := 38) (v := ?_) rfl (by kernel_rfl) (fun _ _ _ h => h) (by rfl) ?_ (by assumption) ?_
  rotate_left 1
  · (intro w hSw; (try dsimp only at hSw); go_simp <;> (with_reducible rfl))
  (first | ((fail_if_success (unfold Act.put)); (try simp only [List.setIfInBounds_toArray, List.set])) | (try simp only [Act.put, List.setIfInBounds_toArray, List.set]))
  refine tk (i := 39) (v := ?_) rfl (by kernel_rfl) (fun _ _ _ h => h) (by rfl) ?_ (by assumption) ?_
  rotate_left 1
  · (intro w hSw; (try dsimp only at hSw); go_simp <;> (with_reducible rfl))
  (first | ((fail_if_success (unfold Act.put)); (try simp only [List.setIfInBounds_toArray, List.set])) | (try simp only [Act.put, List.setIfInBounds_toArray, List.set]))
  refine tk (i := 42) (v := ?_) rfl (by kernel_rfl) (fun _ _ _ h => h) (by rfl) ?_ (by assumption) ?_
  rotate_left 1
  · (intro w hSw; (try dsimp only at hSw); go_simp <;> (with_reducible rfl))
  (first | ((fail_if_success (unfold Act.put)); (try simp only [List.setIfInBounds_toArray, List.set])) | (try simp only [Act.put, List.setIfInBounds_toArray, List.set]))
  refine tk (i := 43) (v := ?_) rfl (by kernel_rfl) (fun _ _ _ h => h) (by rfl) ?_ (by assumption) ?_
  rotate_left 1
  · (intro w hSw; (try dsimp only at hSw); go_simp <;> (with_reducible rfl))
  (first | ((fail_if_success (unfold Act.put)); (try simp only [List.setIfInBounds_toArray, List.set])) | (try simp only [Act.put, List.setIfInBounds_toArray, List.set]))
  refine tk (i := 44) (v := ?_) rfl (by kernel_rfl) (fun _ _ _ h => h) (by rfl) ?_ (by assumption) ?_
  rotate_left 1
  · (intro w hSw; (try dsimp only at hSw); go_simp <;> (with_reducible rfl))
  (first | ((fail_if_success (unfold Act.put)); (try simp only [List.setIfInBounds_toArray, List.set])) | (try simp only [Act.put, List.setIfInBounds_toArray, List.set]))
  refine rd1 (i := 37) (by kernel_rfl) rfl (fun K hK => ?_)
  go_simp
  go_at_call 45; have hBd := hB; refine (HK9.out _ _ _ ia ic).mono ?_; rintro e w12 ⟨⟨vg4, rfl, g4⟩, hb⟩; replace xia := xia.on hb; replace xib := xib.on hb; replace xic := xic.on hb; replace xzero := xzero.on hb; replace ia := ia.on hb; replace ib := ib.on hb; replace ic := ic.on hb; replace gz := gz.on hb; replace g1 := g1.on hb; replace g2 := g2.on hb; replace g3 := g3.on hb; replace hB := hB.trans (hb.mono hB.size); have hz12 := hb.size
  (try go_wp2_with fail)
  refine hK.out _ _ (⟨keep4 hb qia hR6.1, keep4 hb qib hR6.2.1, keep4 hb qic hR6.2.2.1, keep4 hb qzero hR6.2.2.2⟩) (fun hR7 => ?_)
  clear hK K hR6
  (first | ((fail_if_success (unfold Act.put)); (try simp only [List.setIfInBounds_toArray, List.set])) | (try simp only [Act.put, List.setIfInBounds_toArray, List.set]))
  replace qia := Nat.lt_of_lt_of_le qia hz12
  replace qib := Nat.lt_of_lt_of_le qib hz12
  replace qic := Nat.lt_of_lt_of_le qic hz12
  replace qzero := Nat.lt_of_lt_of_le qzero hz12
  clear hb hBd
  refine rd1 (i := 40) (by kernel_rfl) rfl (fun K hK => ?_)
  go_simp
  go_at_call 45; have hBd := hB; refine (HK10.out _ _ _ ib ic).mono ?_; rintro e w13 ⟨⟨vg5, rfl, g5⟩, hb⟩; replace xia := xia.on hb; replace xib := xib.on hb; replace xic := xic.on hb; replace xzero := xzero.on hb; replace ia := ia.on hb; replace ib := ib.on hb; replace ic := ic.on hb; replace gz := gz.on hb; replace g1 := g1.on hb; replace g2 := g2.on hb; replace g3 := g3.on hb; replace g4 := g4.on hb; replace hB := hB.trans (hb.mono hB.size); have hz13 := hb.size
  (try go_wp2_with fail)
  refine hK.out _ _ (⟨keep4 hb qia hR7.1, keep4 hb qib hR7.2.1, keep4 hb qic hR7.2.2.1, keep4 hb qzero hR7.2.2.2⟩) (fun hR8 => ?_)
  clear hK K hR7
  (first | ((fail_if_success (unfold Act.put)); (try simp only [List.setIfInBounds_toArray, List.set])) | (try simp only [Act.put, List.setIfInBounds_toArray, List.set]))
  replace qia := Nat.lt_of_lt_of_le qia hz13
  replace qib := Nat.lt_of_lt_of_le qib hz13
  replace qic := Nat.lt_of_lt_of_le qic hz13
  replace qzero := Nat.lt_of_lt_of_le qzero hz13
  clear hb hBd
  refine rd1 (i := 41) (by kernel_rfl) rfl (fun K hK => ?_)
  go_simp
  go_at_call 52; have hBd := hB; refine (HK11.out _ _ _ g4 g5).mono ?_; rintro e w14 ⟨rfl, hb⟩; replace xia := xia.on hb; replace xib := xib.on hb; replace xic := xic.on hb; replace xzero := xzero.on hb; replace ia := ia.on hb; replace ib := ib.on hb; replace ic := ic.on hb; replace gz := gz.on hb; replace g1 := g1.on hb; replace g2 := g2.on hb; replace g3 := g3.on hb; replace g4 := g4.on hb; replace g5 := g5.on hb; replace hB := hB.trans (hb.mono hB.size); have hz14 := hb.size
  (try go_wp2_with fail)
  refine hK.out _ _ (⟨keep4 hb qia hR8.1, keep4 hb qib hR8.2.1, keep4 hb qic hR8.2.2.1, keep4 hb qzero hR8.2.2.2⟩) (fun hR9 => ?_)
  clear hK K hR8
  (first | ((fail_if_success (unfold Act.put)); (try simp only [List.setIfInBounds_toArray, List.set])) | (try simp only [Act.put, List.setIfInBounds_toArray, List.set]))
  replace qia := Nat.lt_of_lt_of_le qia hz14
  replace qib := Nat.lt_of_lt_of_le qib hz14
  replace qic := Nat.lt_of_lt_of_le qic hz14
  replace qzero := Nat.lt_of_lt_of_le qzero hz14
  clear hb hBd
  refine tk (i := 45) (v := ?_) rfl (by kernel_rfl) (fun _ _ _ h => h) (by rfl) ?_ (by assumption) ?_
  rotate_left 1
  · (intro w hSw; (try dsimp only at hSw); go_simp <;> (with_reducible rfl))
  (first | ((fail_if_success (unfold Act.put)); (try simp only [List.setIfInBounds_toArray, List.set])) | (try simp only [Act.put, List.setIfInBounds_toArray, List.set]))
  refine tk (i := 46) (v := ?_) rfl (by kernel_rfl) (fun _ _ _ h => h) (by rfl) ?_ (by assumption) ?_
  rotate_left 1
  · (intro w hSw; (try dsimp only at hSw); go_simp <;> (with_reducible rfl))
  (first | ((fail_if_success (unfold Act.put)); (try simp only [List.setIfInBounds_toArray, List.set])) | (try simp only [Act.put, List.setIfInBounds_toArray, List.set]))
  refine wpAnyH_done (by kernel_rfl) ?_ _
  refine NoPanic.normal ?_
  clear hR9
  clear qia qib qic qzero
  clear g1
  clear g2
  clear g3
  clear g4
  clear g5
  clear hab q1 q2 q3 q4 q5 q6 q7 q8 q9 q10
  rcases cmpR_cases b c with hbc | hbc | hbc
  · have HT := HT.out
    rw [cmpR_lt hbc] at HT
    replace HT := Lib.hid HT
    have HA := Lib.hid (fun vx vy W (h : Fra W vx a) (g : Fra W vy c) => frCmp_lit vx vy a c (-1) (cmpR_lt (have hab := HAB.out; by grind)) (Fz.mono (q := a) sa (by decide) (by decide)) (Fz.mono (q := c) sc (by decide) (by decide)) W h g)
    have pia := xia.all4
    have pib := xib.all4
    have pic := xic.all4
    have pzero := xzero.all4
    have ltia := xia.lt
    have ltib := xib.lt
    have ltic := xic.lt
    have ltzero := xzero.lt
    go_wp2_with fail
    clear ltia
    clear ltib
    clear ltic
    clear ltzero
    clear pia pib pic pzero
    refine (HT.out _ _ _ ib ic).mono ?_
    rintro e w15 ⟨rfl, hb⟩
    replace xia := xia.on hb
    replace xib := xib.on hb
    replace xic := xic.on hb
    replace xzero := xzero.on hb
    replace ia := ia.on hb
    replace ib := ib.on hb
    replace ic := ic.on hb
    replace gz := gz.on hb
    have hz15 := hb.size
    try simp at hz15
    replace hB := hB.trans (hb.mono hB.size)
    clear hb
    have pia := xia.all4
    have pib := xib.all4
    have pic := xic.all4
    have pzero := xzero.all4
    have ltia := xia.lt
    have ltib := xib.lt
    have ltic := xic.lt
    have ltzero := xzero.lt
    go_wp2_with fail
    clear ltia
    clear ltib
    clear ltic
    clear ltzero
    clear pia pib pic pzero
    refine (HA.out _ _ _ ia ic).mono ?_
    rintro e w16 ⟨rfl, hb⟩
    replace xia := xia.on hb
    replace xib := xib.on hb
    replace xic := xic.on hb
    replace xzero := xzero.on hb
    replace ia := ia.on hb
    replace ib := ib.on hb
    replace ic := ic.on hb
    replace gz := gz.on hb
    have hz16 := hb.size
    try simp at hz16
    replace hB := hB.trans (hb.mono hB.size)
    clear hb
    go_wp2
    go_ret
    exact ⟨rfl, hB⟩
  · have HT := HT.out
    rw [cmpR_same hbc] at HT
    replace HT := Lib.hid HT
    have pia := xia.all4
    have pib := xib.all4
    have pic := xic.all4
    have pzero := xzero.all4
    have ltia := xia.lt
    have ltib := xib.lt
    have ltic := xic.lt
    have ltzero := xzero.lt
    go_wp2_with fail
    clear ltia
    clear ltib
    clear ltic
    clear ltzero
    clear pia pib pic pzero
    refine (HT.out _ _ _ ib ic).mono ?_
    rintro e w15 ⟨rfl, hb⟩
    replace xia := xia.on hb
    replace xib := xib.on hb
    replace xic := xic.on hb
    replace xzero := xzero.on hb
    replace ia := ia.on hb
    replace ib := ib.on hb
    replace ic := ic.on hb
    replace gz := gz.on hb
    have hz15 := hb.size
    try simp at hz15
    replace hB := hB.trans (hb.mono hB.size)
    clear hb
    go_wp2
    go_ret
    exact ⟨rfl, hB⟩
  · have HT := HT.out
    rw [cmpR_gt hbc] at HT
    replace HT := Lib.hid HT
    have pia := xia.all4
    have pib := xib.all4
    have pic := xic.all4
    have pzero := xzero.all4
    have ltia := xia.lt
    have ltib := xib.lt
    have ltic := xic.lt
    have ltzero := xzero.lt
    go_wp2_with fail
    clear ltia
    clear ltib
    clear ltic
    clear ltzero
    clear pia pib pic pzero
    refine (HT.out _ _ _ ib ic).mono ?_
    rintro e w15 ⟨rfl, hb⟩
    replace xia := xia.on hb
    replace xib := xib.on hb
    replace xic := xic.on hb
    replace xzero := xzero.on hb
    replace ia := ia.on hb
    replace ib := ib.on hb
    replace ic := ic.on hb
    replace gz := gz.on hb
    have hz15 := hb.size
    try simp at hz15
    replace hB := hB.trans (hb.mono hB.size)
    clear hb
    go_wp2
    go_ret
    exact ⟨rfl, hB⟩
set_option maxRecDepth 100000 in
set_option maxHeartbeats 8000000 in
theorem FracOrder_e (a b c : Rat) (sa : Fz 40 40 a) (sb : Fz 40 40 b) (sc : Fz 40 40 c) (bia : Bool) (aia : Option Addr) (kia cia : Nat) (dia : Bool) (eia : Option Addr) (lia mia : Nat) (bib : Bool) (aib : Option Addr) (kib cib : Nat) (dib : Bool) (eib : Option Addr) (lib mib : Nat) (bic : Bool) (aic : Option Addr) (kic cic : Nat) (dic : Bool) (eic : Option Addr) (lic mic : Nat) (hab : a = b) (w : World) (ia : Fra w (.agg #[.bool bia, .slice aia kia cia, .bool dia, .slice eia lia mia]) a) (ib : Fra w (.agg #[.bool bib, .slice aib kib cib, .bool dib, .slice eib lib mib]) b) (ic : Fra w (.agg #[.bool bic, .slice aic kic cic, .bool dic, .slice eic lic mic]) c) :
    Calls Tryz.prog 9 #[.agg #[.bool bia, .slice aia kia cia, .bool dia, .slice eia lia mia], .agg #[.bool bib, .slice aib kib cib, .bool dib, .slice eib lib mib], .agg #[.bool bic, .slice aic kic cic, .bool dic, .slice eic lic mic]] w fun e w' => e = .returned (.bool true) ∧ Below w.heap.size w w' := by
  have q1 : IntKind.i64.wrap 1 = 1 := by decide
  have q2 : IntKind.i64.wrap (-1) = -1 := by decide
  have q3 : IntKind.i64.wrap 0 = 0 := by decide
  have q4 : IntKind.i64.wrap (- -1) = 1 := by decide
  have q5 : IntKind.i64.wrap (-0) = 0 := by decide
  have hs := sgn_wrap (cmpR c 0) (cmpR_range c 0)
  have q10 := sgn_same (cmpR c 0) (cmpR_range c 0)
  have hm := mul_sgn a b c
  obtain ⟨s, es⟩ : ∃ s, s = cmpR c 0 := ⟨_, rfl⟩
  rw [← es] at hs hm q10
  obtain ⟨q6, q7, q8, q9⟩ := hs
  have HAB := Lib.hid hab
  have hmul : cmpR (a * c) (b * c) = 0 := hm.2.1 hab
  have HK0 := Lib.hid (fun W => frFromInt_lit 0 (0) (by decide +kernel) (by decide) (by decide) W)
  have HK1 := Lib.hid (fun vx vy W (h : Fra W vx (a)) (g : Fra W vy (b)) => frCmp_lit vx vy (a) (b) (0) (cmpR_same hab) (Fz.mono (q := a) sa (by decide) (by decide)) (Fz.mono (q := b) sb (by decide) (by decide)) W h g)
  have HK2 := Lib.hid (fun vx vy W (h : Fra W vx (c)) (g : Fra W vy (0)) => frCmp_lit vx vy (c) (0) (s) es.symm (Fz.mono (q := c) sc (by decide) (by decide)) (Fz.mono (q := 0) Fz.zero (by decide) (by decide)) W h g)
  have HK3 := Lib.hid (fun vx vy W (h : Fra W vx (b)) (g : Fra W vy (a)) => frCmp_lit vx vy (b) (a) (0) (cmpR_same hab.symm) (Fz.mono (q := b) sb (by decide) (by decide)) (Fz.mono (q := a) sa (by decide) (by decide)) W h g)
  have HK4 := Lib.hid (fun vx vy W (h : Fra W vx (a)) (g : Fra W vy (b)) => law2_less_any vx vy (a) (b) (a - b) rfl (Fz.mono (q := a) sa (by decide) (by decide)) (Fz.mono (q := b) sb (by decide) (by decide)) (Fz.mono (q := (a - b)) (Fz.sub sa sb) (by decide) (by decide)) W h g)
  have HK5 := Lib.hid (fun vx vy W (h : Fra W vx (a - b)) (g : Fra W vy (0)) => frCmp_lit vx vy (a - b) (0) (0) (cmpR_same (by grind)) (Fz.mono (q := (a - b)) (Fz.sub sa sb) (by decide) (by decide)) (Fz.mono (q := 0) Fz.zero (by decide) (by decide)) W h g)
  have HK6 := Lib.hid (fun vx vy W (h : Fra W vx (a)) (g : Fra W vy (c)) => law2_sum_any vx vy (a) (c) (a + c) rfl (Fz.mono (q := a) sa (by decide) (by decide)) (Fz.mono (q := c) sc (by decide) (by decide)) (Fz.mono (q := (a + c)) (Fz.add sa sc) (by decide) (by decide)) W h g)
  have HK7 := Lib.hid (fun vx vy W (h : Fra W vx (b)) (g : Fra W vy (c)) => law2_sum_any vx vy (b) (c) (b + c) rfl (Fz.mono (q := b) sb (by decide) (by decide)) (Fz.mono (q := c) sc (by decide) (by decide)) (Fz.mono (q := (b + c)) (Fz.add sb sc) (by decide) (by decide)) W h g)
  have HK8 := Lib.hid (fun vx vy W (h : Fra W vx (a + c)) (g : Fra W vy (b + c)) => frCmp_lit vx vy (a + c) (b + c) (0) (cmpR_same (by grind)) (Fz.mono (q := (a + c)) (Fz.add sa sc) (by decide) (by decide)) (Fz.mono (q := (b + c)) (Fz.add sb sc) (by decide) (by decide)) W h g)
  have HK9 := Lib.hid (fun vx vy W (h : Fra W vx (a)) (g : Fra W vy (c)) => law2_product_any vx vy (a) (c) (a * c) rfl (Fz.mono (q := a) sa (by decide) (by decide)) (Fz.mono (q := c) sc (by decide) (by decide)) (Fz.mono (q := (a * c)) (Fz.mul sa sc) (by decide) (by decide)) W h g)
  have HK10 := Lib.hid (fun vx vy W (h : Fra W vx (b)) (g : Fra W vy (c)) => law2_product_any vx vy (b) (c) (b * c) rfl (Fz.mono (q := b) sb (by decide) (by decide)) (Fz.mono (q := c) sc (by decide) (by decide)) (Fz.mono (q := (b * c)) (Fz.mul sb sc) (by decide) (by decide)) W h g)
  have HK11 := Lib.hid (fun vx vy W (h : Fra W vx (a * c)) (g : Fra W vy (b * c)) => frCmp_lit vx vy (a * c) (b * c) (0) hmul (Fz.mono (q := (a * c)) (Fz.mul sa sc) (by decide) (by decide)) (Fz.mono (q := (b * c)) (Fz.mul sb sc) (by decide) (by decide)) W h g)
  have HT := Lib.hid (fun vx vy W (h : Fra W vx b) (g : Fra W vy c) => frCmp_lit vx vy b c _ rfl (Fz.mono (q := b) sb (by decide) (by decide)) (Fz.mono (q := c) sc (by decide) (by decide)) W h g)
  clear es hm hmul
  have hB := Below.refl w.heap.size w
  obtain ⟨al, xia, hN⟩ := mk hB #[.bool bia, .slice aia kia cia, .bool dia, .slice eia lia mia] 26
  replace ia := ia.on al
  replace ib := ib.on al
  replace ic := ic.on al
  replace hB := hN
  clear al hN
  try simp only [World.size_alloc] at xia
  obtain ⟨al, xib, hN⟩ := mk hB #[.bool bib, .slice aib kib cib, .bool dib, .slice eib lib mib] 26
  replace xia := xia.on al
  replace ia := ia.on al
  replace ib := ib.on al
  replace ic := ic.on al
  replace hB := hN
  clear al hN
  try simp only [World.size_alloc] at xib
  obtain ⟨al, xic, hN⟩ := mk hB #[.bool bic, .slice aic kic cic, .bool dic, .slice eic lic mic] 26
  replace xia := xia.on al
  replace xib := xib.on al
  replace ia := ia.on al
  replace ib := ib.on al
  replace ic := ic.on al
  replace hB := hN
  clear al hN
  try simp only [World.size_alloc] at xic
  go_enter Tryz.func9, Tryz.ntmps9
  go_wp2_with fail
  refine (law2_awake_any _).mono ?_
  rintro e w1 ⟨rfl, hb⟩
  replace xia := xia.on hb
  replace xib := xib.on hb
  replace xic := xic.on hb
  replace ia := ia.on hb
  replace ib := ib.on hb
  replace ic := ic.on hb
  have hz1 := hb.size
  try simp at hz1
  replace hB := hB.trans (hb.mono hB.size)
  clear hb
  have pia := xia.all4
  have pib := xib.all4
  have pic := xic.all4
  have ltia := xia.lt
  have ltib := xib.lt
  have ltic := xic.lt
  go_wp2_with fail
  clear ltia
  clear ltib
  clear ltic
  clear pia pib pic
  have hb := ((Below.refl w1.heap.size w1).alloc (Nat.le_refl _) (.cells #[.bool bia, .slice aia kia cia, .bool dia, .slice eia lia mia, .bool bib, .slice aib kib cib, .bool dib, .slice eib lib mib, .bool bic, .slice aic kic cic, .bool dic, .slice eic lic mic] 26))
  have xrow : Bk _ w1.heap.size #[.bool bia, .slice aia kia cia, .bool dia, .slice eia lia mia, .bool bib, .slice aib kib cib, .bool dib, .slice eib lib mib, .bool bic, .slice aic kic cic, .bool dic, .slice eic lic mic] 26 := (Bk.new w1 #[.bool bia, .slice aia kia cia, .bool dia, .slice eia lia mia, .bool bib, .slice aib kib cib, .bool dib, .slice eib lib mib, .bool bic, .slice aic kic cic, .bool dic, .slice eic lic mic] 26)
  replace xia := xia.on hb
  replace xib := xib.on hb
  replace xic := xic.on hb
  replace ia := ia.on hb
  replace ib := ib.on hb
  replace ic := ic.on hb
  replace hB := hB.trans (hb.mono hB.size)
  clear hb
  have rw0 := xrow.cell 0
  have rw1 := xrow.cell 1
  have rw2 := xrow.cell 2
  have rw3 := xrow.cell 3
  have rw4 := xrow.cell 4
  have rw5 := xrow.cell 5
  have rw6 := xrow.cell 6
  have rw7 := xrow.cell 7
  have rw8 := xrow.cell 8
  have rw9 := xrow.cell 9
  have rw10 := xrow.cell 10
  have rw11 := xrow.cell 11
  simp only [List.getElem?_toArray, List.getElem?_cons_zero, List.getElem?_cons_succ] at rw0 rw1 rw2 rw3 rw4 rw5 rw6 rw7 rw8 rw9 rw10 rw11
  refine (usable3_fra w1.heap.size a b c bia aia kia cia dia eia lia mia bib aib kib cib dib eib lib mib bic aic kic cic dic eic lic mic _ rw0 rw1 rw2 rw3 rw4 rw5 rw6 rw7 rw8 rw9 rw10 rw11 ia ib ic sa sb sc).mono ?_
  rintro e w2 ⟨rfl, hb⟩
  clear xrow rw0 rw1 rw2 rw3 rw4 rw5 rw6 rw7 rw8 rw9 rw10 rw11
  replace xia := xia.on hb
  replace xib := xib.on hb
  replace xic := xic.on hb
  replace ia := ia.on hb
  replace ib := ib.on hb
  replace ic := ic.on hb
  replace hB := hB.trans (hb.mono hB.size)
  clear hb
  have pia := xia.all4
  have pib := xib.all4
  have pic := xic.all4
  have ltia := xia.lt
  have ltib := xib.lt
  have ltic := xic.lt
  go_wp2_with fail
  clear ltia
  clear ltib
  clear ltic
  clear pia pib pic
  refine (HK0.out _).mono ?_
  rintro e w3 ⟨⟨vgz, rfl, gz⟩, hb⟩
  replace xia := xia.on hb
  replace xib := xib.on hb
  replace xic := xic.on hb
  replace ia := ia.on hb
  replace ib := ib.on hb
  replace ic := ic.on hb
  have hz3 := hb.size
  try simp at hz3
  replace hB := hB.trans (hb.mono hB.size)
  clear hb
  obtain ⟨bz, az, kz, cz, dz, ez, lz, mz, rfl⟩ := gz.opened
  go_wp2_with fail
  have hb := ((Below.refl w3.heap.size w3).alloc (Nat.le_refl _) (.cells #[.bool bz, .slice az kz cz, .bool dz, .slice ez lz mz] 26))
  have xzero : Bk _ w3.heap.size #[.bool bz, .slice az kz cz, .bool dz, .slice ez lz mz] 26 := (Bk.new w3 #[.bool bz, .slice az kz cz, .bool dz, .slice ez lz mz] 26)
  replace xia := xia.on hb
  replace xib := xib.on hb
  replace xic := xic.on hb
  replace ia := ia.on hb
  replace ib := ib.on hb
  replace ic := ic.on hb
  replace gz := gz.on hb
  replace hB := hB.trans (hb.mono hB.size)
  clear hb
  obtain ⟨wa, hwa⟩ : ∃ W, W = (w3.alloc (.cells #[.bool bz, .slice az kz cz, .bool dz, .slice ez lz mz] 26)) := ⟨_, rfl⟩
  rw [← hwa] at hB xia xib xic xzero ia ib ic gz ⊢
  clear hwa
  have qia := xia.lt
  have qib := xib.lt
  have qic := xic.lt
  have qzero := xzero.lt
  obtain ⟨gia0, gia1, gia2, gia3⟩ := xia.cells4
  obtain ⟨gib0, gib1, gib2, gib3⟩ := xib.cells4
  obtain ⟨gic0, gic1, gic2, gic3⟩ := xic.cells4
  obtain ⟨gzero0, gzero1, gzero2, gzero3⟩ := xzero.cells4
  refine wp_region_noPanic ?_
  refine wp_region_held_drew (S := (fun w' => (w'.cell? ⟨w.heap.size, 0, none⟩ = some (.bool bia) ∧ w'.cell? ⟨w.heap.size, 1, none⟩ = some (.slice aia kia cia) ∧ w'.cell? ⟨w.heap.size, 2, none⟩ = some (.bool dia) ∧ w'.cell? ⟨w.heap.size, 3, none⟩ = some (.slice eia lia mia)) ∧ (w'.cell? ⟨w.heap.size + 1, 0, none⟩ = some (.bool bib) ∧ w'.cell? ⟨w.heap.size + 1, 1, none⟩ = some (.slice aib kib cib) ∧ w'.cell? ⟨w.heap.size + 1, 2, none⟩ = some (.bool dib) ∧ w'.cell? ⟨w.heap.size + 1, 3, none⟩ = some (.slice eib lib mib)) ∧ (w'.cell? ⟨w.heap.size + 1 + 1, 0, none⟩ = some (.bool bic) ∧ w'.cell? ⟨w.heap.size + 1 + 1, 1, none⟩ = some (.slice aic kic cic) ∧ w'.cell? ⟨w.heap.size + 1 + 1, 2, none⟩ = some (.bool dic) ∧ w'.cell? ⟨w.heap.size + 1 + 1, 3, none⟩ = some (.slice eic lic mic)) ∧ w'.cell? ⟨w3.heap.size, 0, none⟩ = some (.bool bz) ∧ w'.cell? ⟨w3.heap.size, 1, none⟩ = some (.slice az kz cz) ∧ w'.cell? ⟨w3.heap.size, 2, none⟩ = some (.bool dz) ∧ w'.cell? ⟨w3.heap.size, 3, none⟩ = some (.slice ez lz mz))) (by kernel_rfl) ⟨⟨gia0, gia1, gia2, gia3⟩, ⟨gib0, gib1, gib2, gib3⟩, ⟨gic0, gic1, gic2, gic3⟩, ⟨gzero0, gzero1, gzero2, gzero3⟩⟩ (fun hR0 => ?_)
  change wpAnyH _ _ _ _ _ 8 #[false, false, false, false, false, false, false, false] _ _
  clear gia0 gia1 gia2 gia3 gib0 gib1 gib2 gib3 gic0 gic1 gic2 gic3 gzero0 gzero1 gzero2 gzero3
  refine tk (i := 0) (v := ?_) rfl (by kernel_rfl) (fun _ _ _ h => h) (by rfl) ?_ (by assumption) ?_
  rotate_left 1
  · (intro w hSw; (try dsimp only at hSw); go_simp <;> (with_reducible rfl))
  (first | ((fail_if_success (unfold Act.put)); (try simp only [List.setIfInBounds_toArray, List.set])) | (try simp only [Act.put, List.setIfInBounds_toArray, List.set]))
  refine tk (i := 1) (v := ?_) rfl (by kernel_rfl) (fun _ _ _ h => h) (by rfl) ?_ (by assumption) ?_
  rotate_left 1
  · (intro w hSw; (try dsimp only at hSw); go_simp <;> (with_reducible rfl))
  (first | ((fail_if_success (unfold Act.put)); (try simp only [List.setIfInBounds_toArray, List.set])) | (try simp only [Act.put, List.setIfInBounds_toArray, List.set]))
  refine tk (i := 3) (v := ?_) rfl (by kernel_rfl) (fun _ _ _ h => h) (by rfl) ?_ (by assumption) ?_
  rotate_left 1
  · (intro w hSw; (try dsimp only at hSw); go_simp <;> (with_reducible rfl))
  (first | ((fail_if_success (unfold Act.put)); (try simp only [List.setIfInBounds_toArray, List.set])) | (try simp only [Act.put, List.setIfInBounds_toArray, List.set]))
  refine tk (i := 4) (v := ?_) rfl (by kernel_rfl) (fun _ _ _ h => h) (by rfl) ?_ (by assumption) ?_
  rotate_left 1
  · (intro w hSw; (try dsimp only at hSw); go_simp <;> (with_reducible rfl))
  (first | ((fail_if_success (unfold Act.put)); (try simp only [List.setIfInBounds_toArray, List.set])) | (try simp only [Act.put, List.setIfInBounds_toArray, List.set]))
  refine rd1 (i := 2) (by kernel_rfl) rfl (fun K hK => ?_)
  go_simp
  go_at_call 52; have hBd := hB.drew; refine (HK1.out _ _ _ (by exact ia) (by exact ib)).mono ?_; rintro e w4 ⟨rfl, hb⟩; replace hb := (Below.refl wa.heap.size wa).drew.trans hb; replace xia := xia.on hb; replace xib := xib.on hb; replace xic := xic.on hb; replace xzero := xzero.on hb; replace ia := ia.on hb; replace ib := ib.on hb; replace ic := ic.on hb; replace gz := gz.on hb; replace hB := hB.trans (hb.mono hB.size); have hz4 := hb.size
  (try go_wp2_with fail)
  refine hK.out _ _ (⟨keep4 hb qia hR0.1, keep4 hb qib hR0.2.1, keep4 hb qic hR0.2.2.1, keep4 hb qzero hR0.2.2.2⟩) (fun hR1 => ?_)
  clear hK K hR0
  (first | ((fail_if_success (unfold Act.put)); (try simp only [List.setIfInBounds_toArray, List.set])) | (try simp only [Act.put, List.setIfInBounds_toArray, List.set]))
  replace qia := Nat.lt_of_lt_of_le qia hz4
  replace qib := Nat.lt_of_lt_of_le qib hz4
  replace qic := Nat.lt_of_lt_of_le qic hz4
  replace qzero := Nat.lt_of_lt_of_le qzero hz4
  clear hb hBd
  refine rd1 (i := 5) (by kernel_rfl) rfl (fun K hK => ?_)
  go_simp
  go_at_call 52; have hBd := hB; refine (HK2.out _ _ _ ic gz).mono ?_; rintro e w5 ⟨rfl, hb⟩; replace xia := xia.on hb; replace xib := xib.on hb; replace xic := xic.on hb; replace xzero := xzero.on hb; replace ia := ia.on hb; replace ib := ib.on hb; replace ic := ic.on hb; replace gz := gz.on hb; replace hB := hB.trans (hb.mono hB.size); have hz5 := hb.size
  (try go_wp2_with fail)
  refine hK.out _ _ (⟨keep4 hb qia hR1.1, keep4 hb qib hR1.2.1, keep4 hb qic hR1.2.2.1, keep4 hb qzero hR1.2.2.2⟩) (fun hR2 => ?_)
  clear hK K hR1
  (first | ((fail_if_success (unfold Act.put)); (try simp only [List.setIfInBounds_toArray, List.set])) | (try simp only [Act.put, List.setIfInBounds_toArray, List.set]))
  replace qia := Nat.lt_of_lt_of_le qia hz5
  replace qib := Nat.lt_of_lt_of_le qib hz5
  replace qic := Nat.lt_of_lt_of_le qic hz5
  replace qzero := Nat.lt_of_lt_of_le qzero hz5
  clear hb hBd
  refine tk (i := 6) (v := ?_) rfl (by kernel_rfl) (fun _ _ _ h => h) (by rfl) ?_ (by assumption) ?_
  rotate_left 1
  · (intro w hSw; (try dsimp only at hSw); go_simp <;> (with_reducible rfl))
  (first | ((fail_if_success (unfold Act.put)); (try simp only [List.setIfInBounds_toArray, List.set])) | (try simp only [Act.put, List.setIfInBounds_toArray, List.set]))
  refine tk (i := 7) (v := ?_) rfl (by kernel_rfl) (fun _ _ _ h => h) (by rfl) ?_ (by assumption) ?_
  rotate_left 1
  · (intro w hSw; (try dsimp only at hSw); go_simp <;> (with_reducible rfl))
  (first | ((fail_if_success (unfold Act.put)); (try simp only [List.setIfInBounds_toArray, List.set])) | (try simp only [Act.put, List.setIfInBounds_toArray, List.set]))
  refine wpAnyH_done (by kernel_rfl) ?_ _
  refine NoPanic.normal ?_
  clear hR2
  clear qia qib qic qzero
  go_wp2_with fail
  obtain ⟨wb, hwb⟩ : ∃ W, W = w5 := ⟨_, rfl⟩
  rw [← hwb] at hB xia xib xic xzero ia ib ic gz ⊢
  clear hwb
  have qia := xia.lt
  have qib := xib.lt
  have qic := xic.lt
  have qzero := xzero.lt
  obtain ⟨gia0, gia1, gia2, gia3⟩ := xia.cells4
  obtain ⟨gib0, gib1, gib2, gib3⟩ := xib.cells4
  obtain ⟨gic0, gic1, gic2, gic3⟩ := xic.cells4
  obtain ⟨gzero0, gzero1, gzero2, gzero3⟩ := xzero.cells4
  refine wp_region_noPanic ?_
  refine wp_region_held_drew (S := (fun w' => (w'.cell? ⟨w.heap.size, 0, none⟩ = some (.bool bia) ∧ w'.cell? ⟨w.heap.size, 1, none⟩ = some (.slice aia kia cia) ∧ w'.cell? ⟨w.heap.size, 2, none⟩ = some (.bool dia) ∧ w'.cell? ⟨w.heap.size, 3, none⟩ = some (.slice eia lia mia)) ∧ (w'.cell? ⟨w.heap.size + 1, 0, none⟩ = some (.bool bib) ∧ w'.cell? ⟨w.heap.size + 1, 1, none⟩ = some (.slice aib kib cib) ∧ w'.cell? ⟨w.heap.size + 1, 2, none⟩ = some (.bool dib) ∧ w'.cell? ⟨w.heap.size + 1, 3, none⟩ = some (.slice eib lib mib)) ∧ (w'.cell? ⟨w.heap.size + 1 + 1, 0, none⟩ = some (.bool bic) ∧ w'.cell? ⟨w.heap.size + 1 + 1, 1, none⟩ = some (.slice aic kic cic) ∧ w'.cell? ⟨w.heap.size + 1 + 1, 2, none⟩ = some (.bool dic) ∧ w'.cell? ⟨w.heap.size + 1 + 1, 3, none⟩ = some (.slice eic lic mic)) ∧ w'.cell? ⟨w3.heap.size, 0, none⟩ = some (.bool bz) ∧ w'.cell? ⟨w3.heap.size, 1, none⟩ = some (.slice az kz cz) ∧ w'.cell? ⟨w3.heap.size, 2, none⟩ = some (.bool dz) ∧ w'.cell? ⟨w3.heap.size, 3, none⟩ = some (.slice ez lz mz))) (by kernel_rfl) ⟨⟨gia0, gia1, gia2, gia3⟩, ⟨gib0, gib1, gib2, gib3⟩, ⟨gic0, gic1, gic2, gic3⟩, ⟨gzero0, gzero1, gzero2, gzero3⟩⟩ (fun hR0 => ?_)
  change wpAnyH _ _ _ _ _ 47 #[false, false, false, false, false, false, false, false, false, false, false, false, false, false, false, false, false, false, false, false, false, false, false, false, false, false, false, false, false, false, false, false, false, false, false, false, false, false, false, false, false, false, false, false, false, false, false] _ _
  clear gia0 gia1 gia2 gia3 gib0 gib1 gib2 gib3 gic0 gic1 gic2 gic3 gzero0 gzero1 gzero2 gzero3
  refine tk (i := 0) (v := ?_) rfl (by kernel_rfl) (fun _ _ _ h => h) (by rfl) ?_ (by assumption) ?_
  rotate_left 1
  · (intro w hSw; (try dsimp only at hSw); go_simp <;> (with_reducible rfl))
  (first | ((fail_if_success (unfold Act.put)); (try simp only [List.setIfInBounds_toArray, List.set])) | (try simp only [Act.put, List.setIfInBounds_toArray, List.set]))
  refine tk (i := 1) (v := ?_) rfl (by kernel_rfl) (fun _ _ _ h => h) (by rfl) ?_ (by assumption) ?_
  rotate_left 1
  · (intro w hSw; (try dsimp only at hSw); go_simp <;> (with_reducible rfl))
  (first | ((fail_if_success (unfold Act.put)); (try simp only [List.setIfInBounds_toArray, List.set])) | (try simp only [Act.put, List.setIfInBounds_toArray, List.set]))
  refine tk (i := 2) (v := ?_) rfl (by kernel_rfl) (fun _ _ _ h => h) (by rfl) ?_ (by assumption) ?_
  rotate_left 1
  · (intro w hSw; (try dsimp only at hSw); go_simp <;> (with_reducible rfl))
  (first | ((fail_if_success (unfold Act.put)); (try simp only [List.setIfInBounds_toArray, List.set])) | (try simp only [Act.put, List.setIfInBounds_toArray, List.set]))
  refine tk (i := 3) (v := ?_) rfl (by kernel_rfl) (fun _ _ _ h => h) (by rfl) ?_ (by assumption) ?_
  rotate_left 1
  · (intro w hSw; (try dsimp only at hSw); go_simp <;> (with_reducible rfl))
  (first | ((fail_if_success (unfold Act.put)); (try simp only [List.setIfInBounds_toArray, List.set])) | (try simp only [Act.put, List.setIfInBounds_toArray, List.set]))
  refine tk (i := 4) (v := ?_) rfl (by kernel_rfl) (fun _ _ _ h => h) (by rfl) ?_ (by assumption) ?_
  rotate_left 1
  · (intro w hSw; (try dsimp only at hSw); go_simp <;> (with_reducible rfl))
  (first | ((fail_if_success (unfold Act.put)); (try simp only [List.setIfInBounds_toArray, List.set])) | (try simp only [Act.put, List.setIfInBounds_toArray, List.set]))
  refine tk (i := 5) (v := ?_) rfl (by kernel_rfl) (fun _ _ _ h => h) (by rfl) ?_ (by assumption) ?_
  rotate_left 1
  · (intro w hSw; (try dsimp only at hSw); go_simp <;> (with_reducible rfl))
  (first | ((fail_if_success (unfold Act.put)); (try simp only [List.setIfInBounds_toArray, List.set])) | (try simp only [Act.put, List.setIfInBounds_toArray, List.set]))
  refine tk (i := 6) (v := ?_) rfl (by kernel_rfl) (fun _ _ _ h => h) (by rfl) ?_ (by assumption) ?_
  rotate_left 1
  · (intro w hSw; (try dsimp only at hSw); go_simp <;> (with_reducible rfl))
  (first | ((fail_if_success (unfold Act.put)); (try simp only [List.setIfInBounds_toArray, List.set])) | (try simp only [Act.put, List.setIfInBounds_toArray, List.set]))
  refine tk (i := 7) (v := ?_) rfl (by kernel_rfl) (fun _ _ _ h => h) (by rfl) ?_ (by assumption) ?_
  rotate_left 1
  · (intro w hSw; (try dsimp only at hSw); go_simp <;> (with_reducible rfl))
  (first | ((fail_if_success (unfold Act.put)); (try simp only [List.setIfInBounds_toArray, List.set])) | (try simp only [Act.put, List.setIfInBounds_toArray, List.set]))
  refine tk (i := 8) (v := ?_) rfl (by kernel_rfl) (fun _ _ _ h => h) (by rfl) ?_ (by assumption) ?_
  rotate_left 1
  · (intro w hSw; (try dsimp only at hSw); go_simp <;> (with_reducible rfl))
  (first | ((fail_if_success (unfold Act.put)); (try simp only [List.setIfInBounds_toArray, List.set])) | (try simp only [Act.put, List.setIfInBounds_toArray, List.set]))
  refine tk (i := 10) (v := ?_) rfl (by kernel_rfl) (fun _ _ _ h => h) (by rfl) ?_ (by assumption) ?_
  rotate_left 1
  · (intro w hSw; (try dsimp only at hSw); go_simp <;> (with_reducible rfl))
  (first | ((fail_if_success (unfold Act.put)); (try simp only [List.setIfInBounds_toArray, List.set])) | (try simp only [Act.put, List.setIfInBounds_toArray, List.set]))
  refine tk (i := 11) (v := ?_) rfl (by kernel_rfl) (fun _ _ _ h => h) (by rfl) ?_ (by assumption) ?_
  rotate_left 1
  · (intro w hSw; (try dsimp only at hSw); go_simp <;> (with_reducible rfl))
  (first | ((fail_if_success (unfold Act.put)); (try simp only [List.setIfInBounds_toArray, List.set])) | (try simp only [Act.put, List.setIfInBounds_toArray, List.set]))
  refine rd1 (i := 9) (by kernel_rfl) rfl (fun K hK => ?_)
  go_simp
  go_at_call 52; have hBd := hB.drew; refine (HK3.out _ _ _ (by exact ib) (by exact ia)).mono ?_; rintro e w6 ⟨rfl, hb⟩; replace hb := (Below.refl wb.heap.size wb).drew.trans hb; replace xia := xia.on hb; replace xib := xib.on hb; replace xic := xic.on hb; replace xzero := xzero.on hb; replace ia := ia.on hb; replace ib := ib.on hb; replace ic := ic.on hb; replace gz := gz.on hb; replace hB := hB.trans (hb.mono hB.size); have hz6 := hb.size
  (try go_wp2_with fail)
  refine hK.out _ _ (⟨keep4 hb qia hR0.1, keep4 hb qib hR0.2.1, keep4 hb qic hR0.2.2.1, keep4 hb qzero hR0.2.2.2⟩) (fun hR1 => ?_)
  clear hK K hR0
  (first | ((fail_if_success (unfold Act.put)); (try simp only [List.setIfInBounds_toArray, List.set])) | (try simp only [Act.put, List.setIfInBounds_toArray, List.set]))
  replace qia := Nat.lt_of_lt_of_le qia hz6
  replace qib := Nat.lt_of_lt_of_le qib hz6
  replace qic := Nat.lt_of_lt_of_le qic hz6
  replace qzero := Nat.lt_of_lt_of_le qzero hz6
  clear hb hBd
  refine tk (i := 12) (v := ?_) rfl (by kernel_rfl) (fun _ _ _ h => h) (by rfl) ?_ (by assumption) ?_
  rotate_left 1
  · (intro w hSw; (try dsimp only at hSw); go_simp <;> (with_reducible rfl))
  (first | ((fail_if_success (unfold Act.put)); (try simp only [List.setIfInBounds_toArray, List.set])) | (try simp only [Act.put, List.setIfInBounds_toArray, List.set]))
  refine tk (i := 13) (v := ?_) rfl (by kernel_rfl) (fun _ _ _ h => h) (by rfl) ?_ (by assumption) ?_
  rotate_left 1
  · (intro w hSw; (try dsimp only at hSw); go_simp <;> (with_reducible rfl))
  (first | ((fail_if_success (unfold Act.put)); (try simp only [List.setIfInBounds_toArray, List.set])) | (try simp only [Act.put, List.setIfInBounds_toArray, List.set]))
  refine tk (i := 14) (v := ?_) rfl (by kernel_rfl) (fun _ _ _ h => h) (by rfl) ?_ (by assumption) ?_
  rotate_left 1
  · (intro w hSw; (try dsimp only at hSw); go_simp <;> (with_reducible rfl))
  (first | ((fail_if_success (unfold Act.put)); (try simp only [List.setIfInBounds_toArray, List.set])) | (try simp only [Act.put, List.setIfInBounds_toArray, List.set]))
  refine tk (i := 15) (v := ?_) rfl (by kernel_rfl) (fun _ _ _ h => h) (by rfl) ?_ (by assumption) ?_
  rotate_left 1
  · (intro w hSw; (try dsimp only at hSw); go_simp <;> (with_reducible rfl))
  (first | ((fail_if_success (unfold Act.put)); (try simp only [List.setIfInBounds_toArray, List.set])) | (try simp only [Act.put, List.setIfInBounds_toArray, List.set]))
  refine tk (i := 16) (v := ?_) rfl (by kernel_rfl) (fun _ _ _ h => h) (by rfl) ?_ (by assumption) ?_
  rotate_left 1
  · (intro w hSw; (try dsimp only at hSw); go_simp <;> (with_reducible rfl))
  (first | ((fail_if_success (unfold Act.put)); (try simp only [List.setIfInBounds_toArray, List.set])) | (try simp only [Act.put, List.setIfInBounds_toArray, List.set]))
  refine tk (i := 18) (v := ?_) rfl (by kernel_rfl) (fun _ _ _ h => h) (by rfl) ?_ (by assumption) ?_
  rotate_left 1
  · (intro w hSw; (try dsimp only at hSw); go_simp <;> (with_reducible rfl))
  (first | ((fail_if_success (unfold Act.put)); (try simp only [List.setIfInBounds_toArray, List.set])) | (try simp only [Act.put, List.setIfInBounds_toArray, List.set]))
  refine tk (i := 20) (v := ?_) rfl (by kernel_rfl) (fun _ _ _ h => h) (by rfl) ?_ (by assumption) ?_
  rotate_left 1
  · (intro w hSw; (try dsimp only at hSw); go_simp <;> (with_reducible rfl))
  (first | ((fail_if_success (unfold Act.put)); (try simp only [List.setIfInBounds_toArray, List.set])) | (try simp only [Act.put, List.setIfInBounds_toArray, List.set]))
  refine rd1 (i := 17) (by kernel_rfl) rfl (fun K hK => ?_)
  go_simp
  go_at_call 46; have hBd := hB; refine (HK4.out _ _ _ ia ib).mono ?_; rintro e w7 ⟨⟨vg1, rfl, g1⟩, hb⟩; replace xia := xia.on hb; replace xib := xib.on hb; replace xic := xic.on hb; replace xzero := xzero.on hb; replace ia := ia.on hb; replace ib := ib.on hb; replace ic := ic.on hb; replace gz := gz.on hb; replace hB := hB.trans (hb.mono hB.size); have hz7 := hb.size
  (try go_wp2_with fail)
  refine hK.out _ _ (⟨keep4 hb qia hR1.1, keep4 hb qib hR1.2.1, keep4 hb qic hR1.2.2.1, keep4 hb qzero hR1.2.2.2⟩) (fun hR2 => ?_)
  clear hK K hR1
  (first | ((fail_if_success (unfold Act.put)); (try simp only [List.setIfInBounds_toArray, List.set])) | (try simp only [Act.put, List.setIfInBounds_toArray, List.set]))
  replace qia := Nat.lt_of_lt_of_le qia hz7
  replace qib := Nat.lt_of_lt_of_le qib hz7
  replace qic := Nat.lt_of_lt_of_le qic hz7
  replace qzero := Nat.lt_of_lt_of_le qzero hz7
  clear hb hBd
  refine rd1 (i := 19) (by kernel_rfl) rfl (fun K hK => ?_)
  go_simp
  go_at_call 52; have hBd := hB; refine (HK5.out _ _ _ g1 gz).mono ?_; rintro e w8 ⟨rfl, hb⟩; replace xia := xia.on hb; replace xib := xib.on hb; replace xic := xic.on hb; replace xzero := xzero.on hb; replace ia := ia.on hb; replace ib := ib.on hb; replace ic := ic.on hb; replace gz := gz.on hb; replace g1 := g1.on hb; replace hB := hB.trans (hb.mono hB.size); have hz8 := hb.size
  (try go_wp2_with fail)
  refine hK.out _ _ (⟨keep4 hb qia hR2.1, keep4 hb qib hR2.2.1, keep4 hb qic hR2.2.2.1, keep4 hb qzero hR2.2.2.2⟩) (fun hR3 => ?_)
  clear hK K hR2
  (first | ((fail_if_success (unfold Act.put)); (try simp only [List.setIfInBounds_toArray, List.set])) | (try simp only [Act.put, List.setIfInBounds_toArray, List.set]))
  replace qia := Nat.lt_of_lt_of_le qia hz8
  replace qib := Nat.lt_of_lt_of_le qib hz8
  replace qic := Nat.lt_of_lt_of_le qic hz8
  replace qzero := Nat.lt_of_lt_of_le qzero hz8
  clear hb hBd
  refine tk (i := 21) (v := ?_) rfl (by kernel_rfl) (fun _ _ _ h => h) (by rfl) ?_ (by assumption) ?_
  rotate_left 1
  · (intro w hSw; (try dsimp only at hSw); go_simp <;> (with_reducible rfl))
  (first | ((fail_if_success (unfold Act.put)); (try simp only [List.setIfInBounds_toArray, List.set])) | (try simp only [Act.put, List.setIfInBounds_toArray, List.set]))
  refine tk (i := 22) (v := ?_) rfl (by kernel_rfl) (fun _ _ _ h => h) (by rfl) ?_ (by assumption) ?_
  rotate_left 1
  · (intro w hSw; (try dsimp only at hSw); go_simp <;> (with_reducible rfl))
  (first | ((fail_if_success (unfold Act.put)); (try simp only [List.setIfInBounds_toArray, List.set])) | (try simp only [Act.put, List.setIfInBounds_toArray, List.set]))
  refine tk (i := 23) (v := ?_) rfl (by kernel_rfl) (fun _ _ _ h => h) (by rfl) ?_ (by assumption) ?_
  rotate_left 1
  · (intro w hSw; (try dsimp only at hSw); go_simp <;> (with_reducible rfl))
  (first | ((fail_if_success (unfold Act.put)); (try simp only [List.setIfInBounds_toArray, List.set])) | (try simp only [Act.put, List.setIfInBounds_toArray, List.set]))
  refine tk (i := 24) (v := ?_) rfl (by kernel_rfl) (fun _ _ _ h => h) (by rfl) ?_ (by assumption) ?_
  rotate_left 1
  · (intro w hSw; (try dsimp only at hSw); go_simp <;> (with_reducible rfl))
  (first | ((fail_if_success (unfold Act.put)); (try simp only [List.setIfInBounds_toArray, List.set])) | (try simp only [Act.put, List.setIfInBounds_toArray, List.set]))
  refine tk (i := 25) (v := ?_) rfl (by kernel_rfl) (fun _ _ _ h => h) (by rfl) ?_ (by assumption) ?_
  rotate_left 1
  · (intro w hSw; (try dsimp only at hSw); go_simp <;> (with_reducible rfl))
  (first | ((fail_if_success (unfold Act.put)); (try simp only [List.setIfInBounds_toArray, List.set])) | (try simp only [Act.put, List.setIfInBounds_toArray, List.set]))
  refine tk (i := 27) (v := ?_) rfl (by kernel_rfl) (fun _ _ _ h => h) (by rfl) ?_ (by assumption) ?_
  rotate_left 1
  · (intro w hSw; (try dsimp only at hSw); go_simp <;> (with_reducible rfl))
  (first | ((fail_if_success (unfold Act.put)); (try simp only [List.setIfInBounds_toArray, List.set])) | (try simp only [Act.put, List.setIfInBounds_toArray, List.set]))
  refine tk (i := 28) (v := ?_) rfl (by kernel_rfl) (fun _ _ _ h => h) (by rfl) ?_ (by assumption) ?_
  rotate_left 1
  · (intro w hSw; (try dsimp only at hSw); go_simp <;> (with_reducible rfl))
  (first | ((fail_if_success (unfold Act.put)); (try simp only [List.setIfInBounds_toArray, List.set])) | (try simp only [Act.put, List.setIfInBounds_toArray, List.set]))
  refine tk (i := 31) (v := ?_) rfl (by kernel_rfl) (fun _ _ _ h => h) (by rfl) ?_ (by assumption) ?_
  rotate_left 1
  · (intro w hSw; (try dsimp only at hSw); go_simp <;> (with_reducible rfl))
  (first | ((fail_if_success (unfold Act.put)); (try simp only [List.setIfInBounds_toArray, List.set])) | (try simp only [Act.put, List.setIfInBounds_toArray, List.set]))
  refine rd1 (i := 26) (by kernel_rfl) rfl (fun K hK => ?_)
  go_simp
  go_at_call 44; have hBd := hB; refine (HK6.out _ _ _ ia ic).mono ?_; rintro e w9 ⟨⟨vg2, rfl, g2⟩, hb⟩; replace xia := xia.on hb; replace xib := xib.on hb; replace xic := xic.on hb; replace xzero := xzero.on hb; replace ia := ia.on hb; replace ib := ib.on hb; replace ic := ic.on hb; replace gz := gz.on hb; replace g1 := g1.on hb; replace hB := hB.trans (hb.mono hB.size); have hz9 := hb.size
  (try go_wp2_with fail)
  refine hK.out _ _ (⟨keep4 hb qia hR3.1, keep4 hb qib hR3.2.1, keep4 hb qic hR3.2.2.1, keep4 hb qzero hR3.2.2.2⟩) (fun hR4 => ?_)
  clear hK K hR3
  (first | ((fail_if_success (unfold Act.put)); (try simp only [List.setIfInBounds_toArray, List.set])) | (try simp only [Act.put, List.setIfInBounds_toArray, List.set]))
  replace qia := Nat.lt_of_lt_of_le qia hz9
  replace qib := Nat.lt_of_lt_of_le qib hz9
  replace qic := Nat.lt_of_lt_of_le qic hz9
  replace qzero := Nat.lt_of_lt_of_le qzero hz9
  clear hb hBd
  refine rd1 (i := 29) (by kernel_rfl) rfl (fun K hK => ?_)
  go_simp
  go_at_call 44; have hBd := hB; refine (HK7.out _ _ _ ib ic).mono ?_; rintro e w10 ⟨⟨vg3, rfl, g3⟩, hb⟩; replace xia := xia.on hb; replace xib := xib.on hb; replace xic := xic.on hb; replace xzero := xzero.on hb; replace ia := ia.on hb; replace ib := ib.on hb; replace ic := ic.on hb; replace gz := gz.on hb; replace g1 := g1.on hb; replace g2 := g2.on hb; replace hB := hB.trans (hb.mono hB.size); have hz10 := hb.size
  (try go_wp2_with fail)
  refine hK.out _ _ (⟨keep4 hb qia hR4.1, keep4 hb qib hR4.2.1, keep4 hb qic hR4.2.2.1, keep4 hb qzero hR4.2.2.2⟩) (fun hR5 => ?_)
  clear hK K hR4
  (first | ((fail_if_success (unfold Act.put)); (try simp only [List.setIfInBounds_toArray, List.set])) | (try simp only [Act.put, List.setIfInBounds_toArray, List.set]))
  replace qia := Nat.lt_of_lt_of_le qia hz10
  replace qib := Nat.lt_of_lt_of_le qib hz10
  replace qic := Nat.lt_of_lt_of_le qic hz10
  replace qzero := Nat.lt_of_lt_of_le qzero hz10
  clear hb hBd
  refine rd1 (i := 30) (by kernel_rfl) rfl (fun K hK => ?_)
  go_simp
  go_at_call 52; have hBd := hB; refine (HK8.out _ _ _ g2 g3).mono ?_; rintro e w11 ⟨rfl, hb⟩; replace xia := xia.on hb; replace xib := xib.on hb; replace xic := xic.on hb; replace xzero := xzero.on hb; replace ia := ia.on hb; replace ib := ib.on hb; replace ic := ic.on hb; replace gz := gz.on hb; replace g1 := g1.on hb; replace g2 := g2.on hb; replace g3 := g3.on hb; replace hB := hB.trans (hb.mono hB.size); have hz11 := hb.size
  (try go_wp2_with fail)
  refine hK.out _ _ (⟨keep4 hb qia hR5.1, keep4 hb qib hR5.2.1, keep4 hb qic hR5.2.2.1, keep4 hb qzero hR5.2.2.2⟩) (fun hR6 => ?_)
  clear hK K hR5
  (first | ((fail_if_success (unfold Act.put)); (try simp only [List.setIfInBounds_toArray, List.set])) | (try simp only [Act.put, List.setIfInBounds_toArray, List.set]))
  replace qia := Nat.lt_of_lt_of_le qia hz11
  replace qib := Nat.lt_of_lt_of_le qib hz11
  replace qic := Nat.lt_of_lt_of_le qic hz11
  replace qzero := Nat.lt_of_lt_of_le qzero hz11
  clear hb hBd
  refine tk (i := 32) (v := ?_) rfl (by kernel_rfl) (fun _ _ _ h => h) (by rfl) ?_ (by assumption) ?_
  rotate_left 1
  · (intro w hSw; (try dsimp only at hSw); go_simp <;> (with_reducible rfl))
  (first | ((fail_if_success (unfold Act.put)); (try simp only [List.setIfInBounds_toArray, List.set])) | (try simp only [Act.put, List.setIfInBounds_toArray, List.set]))
  refine tk (i := 33) (v := ?_) rfl (by kernel_rfl) (fun _ _ _ h => h) (by rfl) ?_ (by assumption) ?_
  rotate_left 1
  · (intro w hSw; (try dsimp only at hSw); go_simp <;> (with_reducible rfl))
  (first | ((fail_if_success (unfold Act.put)); (try simp only [List.setIfInBounds_toArray, List.set])) | (try simp only [Act.put, List.setIfInBounds_toArray, List.set]))
  refine tk (i := 34) (v := ?_) rfl (by kernel_rfl) (fun _ _ _ h => h) (by rfl) ?_ (by assumption) ?_
  rotate_left 1
  · (intro w hSw; (try dsimp only at hSw); go_simp <;> (with_reducible rfl))
  (first | ((fail_if_success (unfold Act.put)); (try simp only [List.setIfInBounds_toArray, List.set])) | (try simp only [Act.put, List.setIfInBounds_toArray, List.set]))
  refine tk (i := 35) (v := ?_) rfl (by kernel_rfl) (fun _ _ _ h => h) (by rfl) ?_ (by assumption) ?_
  rotate_left 1
  · (intro w hSw; (try dsimp only at hSw); go_simp <;> (with_reducible rfl))
  (first | ((fail_if_success (unfold Act.put)); (try simp only [List.setIfInBounds_toArray, List.set])) | (try simp only [Act.put, List.setIfInBounds_toArray, List.set]))
  refine tk (i := 36) (v := ?_) rfl (by kernel_rfl) (fun _ _ _ h => h) (by rfl) ?_ (by assumption) ?_
  rotate_left 1
  · (intro w hSw; (try dsimp only at hSw); go_simp <;> (with_reducible rfl))
  (first | ((fail_if_success (unfold Act.put)); (try simp only [List.setIfInBounds_toArray, List.set])) | (try simp only [Act.put, List.setIfInBounds_toArray, List.set]))
  refine tk (i := 38) (v := ?_) rfl (by kernel_rfl) (fun _ _ _ h => h) (by rfl) ?_ (by assumption) ?_
  rotate_left 1
  · (intro w hSw; (try dsimp only at hSw); go_simp <;> (with_reducible rfl))
  (first | ((fail_if_success (unfold Act.put)); (try simp only [List.setIfInBounds_toArray, List.set])) | (try simp only [Act.put, List.setIfInBounds_toArray, List.set]))
  refine tk (i := 39) (v := ?_) rfl (by kernel_rfl) (fun _ _ _ h => h) (by rfl) ?_ (by assumption) ?_
  rotate_left 1
  · (intro w hSw; (try dsimp only at hSw); go_simp <;> (with_reducible rfl))
  (first | ((fail_if_success (unfold Act.put)); (try simp only [List.setIfInBounds_toArray, List.set])) | (try simp only [Act.put, List.setIfInBounds_toArray, List.set]))
  refine tk (i := 42) (v := ?_) rfl (by kernel_rfl) (fun _ _ _ h => h) (by rfl) ?_ (by assumption) ?_
  rotate_left 1
  · (intro w hSw; (try dsimp only at hSw); go_simp <;> (with_reducible rfl))
  (first | ((fail_if_success (unfold Act.put)); (try simp only [List.setIfInBounds_toArray, List.set])) | (try simp only [Act.put, List.setIfInBounds_toArray, List.set]))
  refine tk (i := 43) (v := ?_) rfl (by kernel_rfl) (fun _ _ _ h => h) (by rfl) ?_ (by assumption) ?_
  rotate_left 1
  · (intro w hSw; (try dsimp only at hSw); go_simp <;> (with_reducible rfl))
  (first | ((fail_if_success (unfold Act.put)); (try simp only [List.setIfInBounds_toArray, List.set])) | (try simp only [Act.put, List.setIfInBounds_toArray, List.set]))
  refine tk (i := 44) (v := ?_) rfl (by kernel_rfl) (fun _ _ _ h => h) (by rfl) ?_ (by assumption) ?_
  rotate_left 1
  · (intro w hSw; (try dsimp only at hSw); go_simp <;> (with_reducible rfl))
  (first | ((fail_if_success (unfold Act.put)); (try simp only [List.setIfInBounds_toArray, List.set])) | (try simp only [Act.put, List.setIfInBounds_toArray, List.set]))
  refine rd1 (i := 37) (by kernel_rfl) rfl (fun K hK => ?_)
  go_simp
  go_at_call 45; have hBd := hB; refine (HK9.out _ _ _ ia ic).mono ?_; rintro e w12 ⟨⟨vg4, rfl, g4⟩, hb⟩; replace xia := xia.on hb; replace xib := xib.on hb; replace xic := xic.on hb; replace xzero := xzero.on hb; replace ia := ia.on hb; replace ib := ib.on hb; replace ic := ic.on hb; replace gz := gz.on hb; replace g1 := g1.on hb; replace g2 := g2.on hb; replace g3 := g3.on hb; replace hB := hB.trans (hb.mono hB.size); have hz12 := hb.size
  (try go_wp2_with fail)
  refine hK.out _ _ (⟨keep4 hb qia hR6.1, keep4 hb qib hR6.2.1, keep4 hb qic hR6.2.2.1, keep4 hb qzero hR6.2.2.2⟩) (fun hR7 => ?_)
  clear hK K hR6
  (first | ((fail_if_success (unfold Act.put)); (try simp only [List.setIfInBounds_toArray, List.set])) | (try simp only [Act.put, List.setIfInBounds_toArray, List.set]))
  replace qia := Nat.lt_of_lt_of_le qia hz12
  replace qib := Nat.lt_of_lt_of_le qib hz12
  replace qic := Nat.lt_of_lt_of_le qic hz12
  replace qzero := Nat.lt_of_lt_of_le qzero hz12
  clear hb hBd
  refine rd1 (i := 40) (by kernel_rfl) rfl (fun K hK => ?_)
  go_simp
  go_at_call 45; have hBd := hB; refine (HK10.out _ _ _ ib ic).mono ?_; rintro e w13 ⟨⟨vg5, rfl, g5⟩, hb⟩; replace xia := xia.on hb; replace xib := xib.on hb; replace xic := xic.on hb; replace xzero := xzero.on hb; replace ia := ia.on hb; replace ib := ib.on hb; replace ic := ic.on hb; replace gz := gz.on hb; replace g1 := g1.on hb; replace g2 := g2.on hb; replace g3 := g3.on hb; replace g4 := g4.on hb; replace hB := hB.trans (hb.mono hB.size); have hz13 := hb.size
  (try go_wp2_with fail)
  refine hK.out _ _ (⟨keep4 hb qia hR7.1, keep4 hb qib hR7.2.1, keep4 hb qic hR7.2.2.1, keep4 hb qzero hR7.2.2.2⟩) (fun hR8 => ?_)
  clear hK K hR7
  (first | ((fail_if_success (unfold Act.put)); (try simp only [List.setIfInBounds_toArray, List.set])) | (try simp only [Act.put, List.setIfInBounds_toArray, List.set]))
  replace qia := Nat.lt_of_lt_of_le qia hz13
  replace qib := Nat.lt_of_lt_of_le qib hz13
  replace qic := Nat.lt_of_lt_of_le qic hz13
  replace qzero := Nat.lt_of_lt_of_le qzero hz13
  clear hb hBd
  refine rd1 (i := 41) (by kernel_rfl) rfl (fun K hK => ?_)
  go_simp
  go_at_call 52; have hBd := hB; refine (HK11.out _ _ _ g4 g5).mono ?_; rintro e w14 ⟨rfl, hb⟩; replace xia := xia.on hb; replace xib := xib.on hb; replace xic := xic.on hb; replace xzero := xzero.on hb; replace ia := ia.on hb; replace ib := ib.on hb; replace ic := ic.on hb; replace gz := gz.on hb; replace g1 := g1.on hb; replace g2 := g2.on hb; replace g3 := g3.on hb; replace g4 := g4.on hb; replace g5 := g5.on hb; replace hB := hB.trans (hb.mono hB.size); have hz14 := hb.size
  (try go_wp2_with fail)
  refine hK.out _ _ (⟨keep4 hb qia hR8.1, keep4 hb qib hR8.2.1, keep4 hb qic hR8.2.2.1, keep4 hb qzero hR8.2.2.2⟩) (fun hR9 => ?_)
  clear hK K hR8
  (first | ((fail_if_success (unfold Act.put)); (try simp only [List.setIfInBounds_toArray, List.set])) | (try simp only [Act.put, List.setIfInBounds_toArray, List.set]))
  replace qia := Nat.lt_of_lt_of_le qia hz14
  replace qib := Nat.lt_of_lt_of_le qib hz14
  replace qic := Nat.lt_of_lt_of_le qic hz14
  replace qzero := Nat.lt_of_lt_of_le qzero hz14
  clear hb hBd
  refine tk (i := 45) (v := ?_) rfl (by kernel_rfl) (fun _ _ _ h => h) (by rfl) ?_ (by assumption) ?_
  rotate_left 1
  · (intro w hSw; (try dsimp only at hSw); go_simp <;> (with_reducible rfl))
  (first | ((fail_if_success (unfold Act.put)); (try simp only [List.setIfInBounds_toArray, List.set])) | (try simp only [Act.put, List.setIfInBounds_toArray, List.set]))
  refine tk (i := 46) (v := ?_) rfl (by kernel_rfl) (fun _ _ _ h => h) (by rfl) ?_ (by assumption) ?_
  rotate_left 1
  · (intro w hSw; (try dsimp only at hSw); go_simp <;> (with_reducible rfl))
  (first | ((fail_if_success (unfold Act.put)); (try simp only [List.setIfInBounds_toArray, List.set])) | (try simp only [Act.put, List.setIfInBounds_toArray, List.set]))
  refine wpAnyH_done (by kernel_rfl) ?_ _
  refine NoPanic.normal ?_
  clear hR9
  clear qia qib qic qzero
  clear g1
  clear g2
  clear g3
  clear g4
  clear g5
  clear hab q1 q2 q3 q4 q5 q6 q7 q8 q9 q10
  rcases cmpR_cases b c with hbc | hbc | hbc
  · have HT := HT.out
    rw [cmpR_lt hbc] at HT
    replace HT := Lib.hid HT
    have pia := xia.all4
    have pib := xib.all4
    have pic := xic.all4
    have pzero := xzero.all4
    have ltia := xia.lt
    have ltib := xib.lt
    have ltic := xic.lt
    have ltzero := xzero.lt
    go_wp2_with fail
    clear ltia
    clear ltib
    clear ltic
    clear ltzero
    clear pia pib pic pzero
    refine (HT.out _ _ _ ib ic).mono ?_
    rintro e w15 ⟨rfl, hb⟩
    replace xia := xia.on hb
    replace xib := xib.on hb
    replace xic := xic.on hb
    replace xzero := xzero.on hb
    replace ia := ia.on hb
    replace ib := ib.on hb
    replace ic := ic.on hb
    replace gz := gz.on hb
    have hz15 := hb.size
    try simp at hz15
    replace hB := hB.trans (hb.mono hB.size)
    clear hb
    go_wp2
    go_ret
    exact ⟨rfl, hB⟩
  · have HT := HT.out
    rw [cmpR_same hbc] at HT
    replace HT := Lib.hid HT
    have HA := Lib.hid (fun vx vy W (h : Fra W vx a) (g : Fra W vy c) => frCmp_lit vx vy a c 0 (cmpR_same (have hab := HAB.out; by grind)) (Fz.mono (q := a) sa (by decide) (by decide)) (Fz.mono (q := c) sc (by decide) (by decide)) W h g)
    have pia := xia.all4
    have pib := xib.all4
    have pic := xic.all4
    have pzero := xzero.all4
    have ltia := xia.lt
    have ltib := xib.lt
    have ltic := xic.lt
    have ltzero := xzero.lt
    go_wp2_with fail
    clear ltia
    clear ltib
    clear ltic
    clear ltzero
    clear pia pib pic pzero
    refine (HT.out _ _ _ ib ic).mono ?_
    rintro e w15 ⟨rfl, hb⟩
    replace xia := xia.on hb
    replace xib := xib.on hb
    replace xic := xic.on hb
    replace xzero := xzero.on hb
    replace ia := ia.on hb
    replace ib := ib.on hb
    replace ic := ic.on hb
    replace gz := gz.on hb
    have hz15 := hb.size
    try simp at hz15
    replace hB := hB.trans (hb.mono hB.size)
    clear hb
    have pia := xia.all4
    have pib := xib.all4
    have pic := xic.all4
    have pzero := xzero.all4
    have ltia := xia.lt
    have ltib := xib.lt
    have ltic := xic.lt
    have ltzero := xzero.lt
    go_wp2_with fail
    clear ltia
    clear ltib
    clear ltic
    clear ltzero
    clear pia pib pic pzero
    refine (HA.out _ _ _ ia ic).mono ?_
    rintro e w16 ⟨rfl, hb⟩
    replace xia := xia.on hb
    replace xib := xib.on hb
    replace xic := xic.on hb
    replace xzero := xzero.on hb
    replace ia := ia.on hb
    replace ib := ib.on hb
    replace ic := ic.on hb
    replace gz := gz.on hb
    have hz16 := hb.size
    try simp at hz16
    replace hB := hB.trans (hb.mono hB.size)
    clear hb
    go_wp2
    go_ret
    exact ⟨rfl, hB⟩
  · have HT := HT.out
    rw [cmpR_gt hbc] at HT
    replace HT := Lib.hid HT
    have pia := xia.all4
    have pib := xib.all4
    have pic := xic.all4
    have pzero := xzero.all4
    have ltia := xia.lt
    have ltib := xib.lt
    have ltic := xic.lt
    have ltzero := xzero.lt
    go_wp2_with fail
    clear ltia
    clear ltib
    clear ltic
    clear ltzero
    clear pia pib pic pzero
    refine (HT.out _ _ _ ib ic).mono ?_
    rintro e w15 ⟨rfl, hb⟩
    replace xia := xia.on hb
    replace xib := xib.on hb
    replace xic := xic.on hb
    replace xzero := xzero.on hb
    replace ia := ia.on hb
    replace ib := ib.on hb
    replace ic := ic.on hb
    replace gz := gz.on hb
    have hz15 := hb.size
    try simp at hz15
    replace hB := hB.trans (hb.mono hB.size)
    clear hb
    go_wp2
    go_ret
    exact ⟨rfl, hB⟩
set_option maxRecDepth 100000 in
set_option maxHeartbeats 8000000 in
theorem FracOrder_g (a b c : Rat) (sa : Fz 40 40 a) (sb : Fz 40 40 b) (sc : Fz 40 40 c) (bia : Bool) (aia : Option Addr) (kia cia : Nat) (dia : Bool) (eia : Option Addr) (lia mia : Nat) (bib : Bool) (aib : Option Addr) (kib cib : Nat) (dib : Bool) (eib : Option Addr) (lib mib : Nat) (bic : Bool) (aic : Option Addr) (kic cic : Nat) (dic : Bool) (eic : Option Addr) (lic mic : Nat) (hab : b < a) (w : World) (ia : Fra w (.agg #[.bool bia, .slice aia kia cia, .bool dia, .slice eia lia mia]) a) (ib : Fra w (.agg #[.bool bib, .slice aib kib cib, .bool dib, .slice eib lib mib]) b) (ic : Fra w (.agg #[.bool bic, .slice aic kic cic, .bool dic, .slice eic lic mic]) c) :
    Calls Tryz.prog 9 #[.agg #[.bool bia, .slice aia kia cia, .bool dia, .slice eia lia mia], .agg #[.bool bib, .slice aib kib cib, .bool dib, .slice eib lib mib], .agg #[.bool bic, .slice aic kic cic, .bool dic, .slice eic lic mic]] w fun e w' => e = .returned (.bool true) ∧ Below w.heap.size w w' := by
  have q1 : IntKind.i64.wrap 1 = 1 := by decide
  have q2 : IntKind.i64.wrap (-1) = -1 := by decide
  have q3 : IntKind.i64.wrap 0 = 0 := by decide
  have q4 : IntKind.i64.wrap (- -1) = 1 := by decide
  have q5 : IntKind.i64.wrap (-0) = 0 := by decide
  have hs := sgn_wrap (cmpR c 0) (cmpR_range c 0)
  have q10 := sgn_same (cmpR c 0) (cmpR_range c 0)
  have hm := mul_sgn a b c
  obtain ⟨s, es⟩ : ∃ s, s = cmpR c 0 := ⟨_, rfl⟩
  rw [← es] at hs hm q10
  obtain ⟨q6, q7, q8, q9⟩ := hs
  have HAB := Lib.hid hab
  have hmul : cmpR (a * c) (b * c) = s := hm.2.2 hab
  have HK0 := Lib.hid (fun W => frFromInt_lit 0 (0) (by decide +kernel) (by decide) (by decide) W)
  have HK1 := Lib.hid (fun vx vy W (h : Fra W vx (a)) (g : Fra W vy (b)) => frCmp_lit vx vy (a) (b) (1) (cmpR_gt hab) (Fz.mono (q := a) sa (by decide) (by decide)) (Fz.mono (q := b) sb (by decide) (by decide)) W h g)
  have HK2 := Lib.hid (fun vx vy W (h : Fra W vx (c)) (g : Fra W vy (0)) => frCmp_lit vx vy (c) (0) (s) es.symm (Fz.mono (q := c) sc (by decide) (by decide)) (Fz.mono (q := 0) Fz.zero (by decide) (by decide)) W h g)
  have HK3 := Lib.hid (fun vx vy W (h : Fra W vx (b)) (g : Fra W vy (a)) => frCmp_lit vx vy (b) (a) (-1) (cmpR_lt hab) (Fz.mono (q := b) sb (by decide) (by decide)) (Fz.mono (q := a) sa (by decide) (by decide)) W h g)
  have HK4 := Lib.hid (fun vx vy W (h : Fra W vx (a)) (g : Fra W vy (b)) => law2_less_any vx vy (a) (b) (a - b) rfl (Fz.mono (q := a) sa (by decide) (by decide)) (Fz.mono (q := b) sb (by decide) (by decide)) (Fz.mono (q := (a - b)) (Fz.sub sa sb) (by decide) (by decide)) W h g)
  have HK5 := Lib.hid (fun vx vy W (h : Fra W vx (a - b)) (g : Fra W vy (0)) => frCmp_lit vx vy (a - b) (0) (1) (cmpR_gt (by grind)) (Fz.mono (q := (a - b)) (Fz.sub sa sb) (by decide) (by decide)) (Fz.mono (q := 0) Fz.zero (by decide) (by decide)) W h g)
  have HK6 := Lib.hid (fun vx vy W (h : Fra W vx (a)) (g : Fra W vy (c)) => law2_sum_any vx vy (a) (c) (a + c) rfl (Fz.mono (q := a) sa (by decide) (by decide)) (Fz.mono (q := c) sc (by decide) (by decide)) (Fz.mono (q := (a + c)) (Fz.add sa sc) (by decide) (by decide)) W h g)
  have HK7 := Lib.hid (fun vx vy W (h : Fra W vx (b)) (g : Fra W vy (c)) => law2_sum_any vx vy (b) (c) (b + c) rfl (Fz.mono (q := b) sb (by decide) (by decide)) (Fz.mono (q := c) sc (by decide) (by decide)) (Fz.mono (q := (b + c)) (Fz.add sb sc) (by decide) (by decide)) W h g)
  have HK8 := Lib.hid (fun vx vy W (h : Fra W vx (a + c)) (g : Fra W vy (b + c)) => frCmp_lit vx vy (a + c) (b + c) (1) (cmpR_gt (by grind)) (Fz.mono (q := (a + c)) (Fz.add sa sc) (by decide) (by decide)) (Fz.mono (q := (b + c)) (Fz.add sb sc) (by decide) (by decide)) W h g)
  have HK9 := Lib.hid (fun vx vy W (h : Fra W vx (a)) (g : Fra W vy (c)) => law2_product_any vx vy (a) (c) (a * c) rfl (Fz.mono (q := a) sa (by decide) (by decide)) (Fz.mono (q := c) sc (by decide) (by decide)) (Fz.mono (q := (a * c)) (Fz.mul sa sc) (by decide) (by decide)) W h g)
  have HK10 := Lib.hid (fun vx vy W (h : Fra W vx (b)) (g : Fra W vy (c)) => law2_product_any vx vy (b) (c) (b * c) rfl (Fz.mono (q := b) sb (by decide) (by decide)) (Fz.mono (q := c) sc (by decide) (by decide)) (Fz.mono (q := (b * c)) (Fz.mul sb sc) (by decide) (by decide)) W h g)
  have HK11 := Lib.hid (fun vx vy W (h : Fra W vx (a * c)) (g : Fra W vy (b * c)) => frCmp_lit vx vy (a * c) (b * c) (s) hmul (Fz.mono (q := (a * c)) (Fz.mul sa sc) (by decide) (by decide)) (Fz.mono (q := (b * c)) (Fz.mul sb sc) (by decide) (by decide)) W h g)
  have HT := Lib.hid (fun vx vy W (h : Fra W vx b) (g : Fra W vy c) => frCmp_lit vx vy b c _ rfl (Fz.mono (q := b) sb (by decide) (by decide)) (Fz.mono (q := c) sc (by decide) (by decide)) W h g)
  clear es hm hmul
  have hB := Below.refl w.heap.size w
  obtain ⟨al, xia, hN⟩ := mk hB #[.bool bia, .slice aia kia cia, .bool dia, .slice eia lia mia] 26
  replace ia := ia.on al
  replace ib := ib.on al
  replace ic := ic.on al
  replace hB := hN
  clear al hN
  try simp only [World.size_alloc] at xia
  obtain ⟨al, xib, hN⟩ := mk hB #[.bool bib, .slice aib kib cib, .bool dib, .slice eib lib mib] 26
  replace xia := xia.on al
  replace ia := ia.on al
  replace ib := ib.on al
  replace ic := ic.on al
  replace hB := hN
  clear al hN
  try simp only [World.size_alloc] at xib
  obtain ⟨al, xic, hN⟩ := mk hB #[.bool bic, .slice aic kic cic, .bool dic, .slice eic lic mic] 26
  replace xia := xia.on al
  replace xib := xib.on al
  replace ia := ia.on al
  replace ib := ib.on al
  replace ic := ic.on al
  replace hB := hN
  clear al hN
  try simp only [World.size_alloc] at xic
  go_enter Tryz.func9, Tryz.ntmps9
  go_wp2_with fail
  refine (law2_awake_any _).mono ?_
  rintro e w1 ⟨rfl, hb⟩
  replace xia := xia.on hb
  replace xib := xib.on hb
  replace xic := xic.on hb
  replace ia := ia.on hb
  replace ib := ib.on hb
  replace ic := ic.on hb
  have hz1 := hb.size
  try simp at hz1
  replace hB := hB.trans (hb.mono hB.size)
  clear hb
  have pia := xia.all4
  have pib := xib.all4
  have pic := xic.all4
  have ltia := xia.lt
  have ltib := xib.lt
  have ltic := xic.lt
  go_wp2_with fail
  clear ltia
  clear ltib
  clear ltic
  clear pia pib pic
  have hb := ((Below.refl w1.heap.size w1).alloc (Nat.le_refl _) (.cells #[.bool bia, .slice aia kia cia, .bool dia, .slice eia lia mia, .bool bib, .slice aib kib cib, .bool dib, .slice eib lib mib, .bool bic, .slice aic kic cic, .bool dic, .slice eic lic mic] 26))
  have xrow : Bk _ w1.heap.size #[.bool bia, .slice aia kia cia, .bool dia, .slice eia lia mia, .bool bib, .slice aib kib cib, .bool dib, .slice eib lib mib, .bool bic, .slice aic kic cic, .bool dic, .slice eic lic mic] 26 := (Bk.new w1 #[.bool bia, .slice aia kia cia, .bool dia, .slice eia lia mia, .bool bib, .slice aib kib cib, .bool dib, .slice eib lib mib, .bool bic, .slice aic kic cic, .bool dic, .slice eic lic mic] 26)
  replace xia := xia.on hb
  replace xib := xib.on hb
  replace xic := xic.on hb
  replace ia := ia.on hb
  replace ib := ib.on hb
  replace ic := ic.on hb
  replace hB := hB.trans (hb.mono hB.size)
  clear hb
  have rw0 := xrow.cell 0
  have rw1 := xrow.cell 1
  have rw2 := xrow.cell 2
  have rw3 := xrow.cell 3
  have rw4 := xrow.cell 4
  have rw5 := xrow.cell 5
  have rw6 := xrow.cell 6
  have rw7 := xrow.cell 7
  have rw8 := xrow.cell 8
  have rw9 := xrow.cell 9
  have rw10 := xrow.cell 10
  have rw11 := xrow.cell 11
  simp only [List.getElem?_toArray, List.getElem?_cons_zero, List.getElem?_cons_succ] at rw0 rw1 rw2 rw3 rw4 rw5 rw6 rw7 rw8 rw9 rw10 rw11
  refine (usable3_fra w1.heap.size a b c bia aia kia cia dia eia lia mia bib aib kib cib dib eib lib mib bic aic kic cic dic eic lic mic _ rw0 rw1 rw2 rw3 rw4 rw5 rw6 rw7 rw8 rw9 rw10 rw11 ia ib ic sa sb sc).mono ?_
  rintro e w2 ⟨rfl, hb⟩
  clear xrow rw0 rw1 rw2 rw3 rw4 rw5 rw6 rw7 rw8 rw9 rw10 rw11
  replace xia := xia.on hb
  replace xib := xib.on hb
  replace xic := xic.on hb
  replace ia := ia.on hb
  replace ib := ib.on hb
  replace ic := ic.on hb
  replace hB := hB.trans (hb.mono hB.size)
  clear hb
  have pia := xia.all4
  have pib := xib.all4
  have pic := xic.all4
  have ltia := xia.lt
  have ltib := xib.lt
  have ltic := xic.lt
  go_wp2_with fail
  clear ltia
  clear ltib
  clear ltic
  clear pia pib pic
  refine (HK0.out _).mono ?_
  rintro e w3 ⟨⟨vgz, rfl, gz⟩, hb⟩
  replace xia := xia.on hb
  replace xib := xib.on hb
  replace xic := xic.on hb
  replace ia := ia.on hb
  replace ib := ib.on hb
  replace ic := ic.on hb
  have hz3 := hb.size
  try simp at hz3
  replace hB := hB.trans (hb.mono hB.size)
  clear hb
  obtain ⟨bz, az, kz, cz, dz, ez, lz, mz, rfl⟩ := gz.opened
  go_wp2_with fail
  have hb := ((Below.refl w3.heap.size w3).alloc (Nat.le_refl _) (.cells #[.bool bz, .slice az kz cz, .bool dz, .slice ez lz mz] 26))
  have xzero : Bk _ w3.heap.size #[.bool bz, .slice az kz cz, .bool dz, .slice ez lz mz] 26 := (Bk.new w3 #[.bool bz, .slice az kz cz, .bool dz, .slice ez lz mz] 26)
  replace xia := xia.on hb
  replace xib := xib.on hb
  replace xic := xic.on hb
  replace ia := ia.on hb
  replace ib := ib.on hb
  replace ic := ic.on hb
  replace gz := gz.on hb
  replace hB := hB.trans (hb.mono hB.size)
  clear hb
  obtain ⟨wa, hwa⟩ : ∃ W, W = (w3.alloc (.cells #[.bool bz, .slice az kz cz, .bool dz, .slice ez lz mz] 26)) := ⟨_, rfl⟩
  rw [← hwa] at hB xia xib xic xzero ia ib ic gz ⊢
  clear hwa
  have qia := xia.lt
  have qib := xib.lt
  have qic := xic.lt
  have qzero := xzero.lt
  obtain ⟨gia0, gia1, gia2, gia3⟩ := xia.cells4
  obtain ⟨gib0, gib1, gib2, gib3⟩ := xib.cells4
  obtain ⟨gic0, gic1, gic2, gic3⟩ := xic.cells4
  obtain ⟨gzero0, gzero1, gzero2, gzero3⟩ := xzero.cells4
  refine wp_region_noPanic ?_
  refine wp_region_held_drew (S := (fun w' => (w'.cell? ⟨w.heap.size, 0, none⟩ = some (.bool bia) ∧ w'.cell? ⟨w.heap.size, 1, none⟩ = some (.slice aia kia cia) ∧ w'.cell? ⟨w.heap.size, 2, none⟩ = some (.bool dia) ∧ w'.cell? ⟨w.heap.size, 3, none⟩ = some (.slice eia lia mia)) ∧ (w'.cell? ⟨w.heap.size + 1, 0, none⟩ = some (.bool bib) ∧ w'.cell? ⟨w.heap.size + 1, 1, none⟩ = some (.slice aib kib cib) ∧ w'.cell? ⟨w.heap.size + 1, 2, none⟩ = some (.bool dib) ∧ w'.cell? ⟨w.heap.size + 1, 3, none⟩ = some (.slice eib lib mib)) ∧ (w'.cell? ⟨w.heap.size + 1 + 1, 0, none⟩ = some (.bool bic) ∧ w'.cell? ⟨w.heap.size + 1 + 1, 1, none⟩ = some (.slice aic kic cic) ∧ w'.cell? ⟨w.heap.size + 1 + 1, 2, none⟩ = some (.bool dic) ∧ w'.cell? ⟨w.heap.size + 1 + 1, 3, none⟩ = some (.slice eic lic mic)) ∧ w'.cell? ⟨w3.heap.size, 0, none⟩ = some (.bool bz) ∧ w'.cell? ⟨w3.heap.size, 1, none⟩ = some (.slice az kz cz) ∧ w'.cell? ⟨w3.heap.size, 2, none⟩ = some (.bool dz) ∧ w'.cell? ⟨w3.heap.size, 3, none⟩ = some (.slice ez lz mz))) (by kernel_rfl) ⟨⟨gia0, gia1, gia2, gia3⟩, ⟨gib0, gib1, gib2, gib3⟩, ⟨gic0, gic1, gic2, gic3⟩, ⟨gzero0, gzero1, gzero2, gzero3⟩⟩ (fun hR0 => ?_)
  change wpAnyH _ _ _ _ _ 8 #[false, false, false, false, false, false, false, false] _ _
  clear gia0 gia1 gia2 gia3 gib0 gib1 gib2 gib3 gic0 gic1 gic2 gic3 gzero0 gzero1 gzero2 gzero3
  refine tk (i := 0) (v := ?_) rfl (by kernel_rfl) (fun _ _ _ h => h) (by rfl) ?_ (by assumption) ?_
  rotate_left 1
  · (intro w hSw; (try dsimp only at hSw); go_simp <;> (with_reducible rfl))
  (first | ((fail_if_success (unfold Act.put)); (try simp only [List.setIfInBounds_toArray, List.set])) | (try simp only [Act.put, List.setIfInBounds_toArray, List.set]))
  refine tk (i := 1) (v := ?_) rfl (by kernel_rfl) (fun _ _ _ h => h) (by rfl) ?_ (by assumption) ?_
  rotate_left 1
  · (intro w hSw; (try dsimp only at hSw); go_simp <;> (with_reducible rfl))
  (first | ((fail_if_success (unfold Act.put)); (try simp only [List.setIfInBounds_toArray, List.set])) | (try simp only [Act.put, List.setIfInBounds_toArray, List.set]))
  refine tk (i := 3) (v := ?_) rfl (by kernel_rfl) (fun _ _ _ h => h) (by rfl) ?_ (by assumption) ?_
  rotate_left 1
  · (intro w hSw; (try dsimp only at hSw); go_simp <;> (with_reducible rfl))
  (first | ((fail_if_success (unfold Act.put)); (try simp only [List.setIfInBounds_toArray, List.set])) | (try simp only [Act.put, List.setIfInBounds_toArray, List.set]))
  refine tk (i := 4) (v := ?_) rfl (by kernel_rfl) (fun _ _ _ h => h) (by rfl) ?_ (by assumption) ?_
  rotate_left 1
  · (intro w hSw; (try dsimp only at hSw); go_simp <;> (with_reducible rfl))
  (first | ((fail_if_success (unfold Act.put)); (try simp only [List.setIfInBounds_toArray, List.set])) | (try simp only [Act.put, List.setIfInBounds_toArray, List.set]))
  refine rd1 (i := 2) (by kernel_rfl) rfl (fun K hK => ?_)
  go_simp
  go_at_call 52; have hBd := hB.drew; refine (HK1.out _ _ _ (by exact ia) (by exact ib)).mono ?_; rintro e w4 ⟨rfl, hb⟩; replace hb := (Below.refl wa.heap.size wa).drew.trans hb; replace xia := xia.on hb; replace xib := xib.on hb; replace xic := xic.on hb; replace xzero := xzero.on hb; replace ia := ia.on hb; replace ib := ib.on hb; replace ic := ic.on hb; replace gz := gz.on hb; replace hB := hB.trans (hb.mono hB.size); have hz4 := hb.size
  (try go_wp2_with fail)
  refine hK.out _ _ (⟨keep4 hb qia hR0.1, keep4 hb qib hR0.2.1, keep4 hb qic hR0.2.2.1, keep4 hb qzero hR0.2.2.2⟩) (fun hR1 => ?_)
  clear hK K hR0
  (first | ((fail_if_success (unfold Act.put)); (try simp only [List.setIfInBounds_toArray, List.set])) | (try simp only [Act.put, List.setIfInBounds_toArray, List.set]))
  replace qia := Nat.lt_of_lt_of_le qia hz4
  replace qib := Nat.lt_of_lt_of_le qib hz4
  replace qic := Nat.lt_of_lt_of_le qic hz4
  replace qzero := Nat.lt_of_lt_of_le qzero hz4
  clear hb hBd
  refine rd1 (i := 5) (by kernel_rfl) rfl (fun K hK => ?_)
  go_simp
  go_at_call 52; have hBd := hB; refine (HK2.out _ _ _ ic gz).mono ?_; rintro e w5 ⟨rfl, hb⟩; replace xia := xia.on hb; replace xib := xib.on hb; replace xic := xic.on hb; replace xzero := xzero.on hb; replace ia := ia.on hb; replace ib := ib.on hb; replace ic := ic.on hb; replace gz := gz.on hb; replace hB := hB.trans (hb.mono hB.size); have hz5 := hb.size
  (try go_wp2_with fail)
  refine hK.out _ _ (⟨keep4 hb qia hR1.1, keep4 hb qib hR1.2.1, keep4 hb qic hR1.2.2.1, keep4 hb qzero hR1.2.2.2⟩) (fun hR2 => ?_)
  clear hK K hR1
  (first | ((fail_if_success (unfold Act.put)); (try simp only [List.setIfInBounds_toArray, List.set])) | (try simp only [Act.put, List.setIfInBounds_toArray, List.set]))
  replace qia := Nat.lt_of_lt_of_le qia hz5
  replace qib := Nat.lt_of_lt_of_le qib hz5
  replace qic := Nat.lt_of_lt_of_le qic hz5
  replace qzero := Nat.lt_of_lt_of_le qzero hz5
  clear hb hBd
  refine tk (i := 6) (v := ?_) rfl (by kernel_rfl) (fun _ _ _ h => h) (by rfl) ?_ (by assumption) ?_
  rotate_left 1
  · (intro w hSw; (try dsimp only at hSw); go_simp <;> (with_reducible rfl))
  (first | ((fail_if_success (unfold Act.put)); (try simp only [List.setIfInBounds_toArray, List.set])) | (try simp only [Act.put, List.setIfInBounds_toArray, List.set]))
  refine tk (i := 7) (v := ?_) rfl (by kernel_rfl) (fun _ _ _ h => h) (by rfl) ?_ (by assumption) ?_
  rotate_left 1
  · (intro w hSw; (try dsimp only at hSw); go_simp <;> (with_reducible rfl))
  (first | ((fail_if_success (unfold Act.put)); (try simp only [List.setIfInBounds_toArray, List.set])) | (try simp only [Act.put, List.setIfInBounds_toArray, List.set]))
  refine wpAnyH_done (by kernel_rfl) ?_ _
  refine NoPanic.normal ?_
  clear hR2
  clear qia qib qic qzero
  go_wp2_with fail
  obtain ⟨wb, hwb⟩ : ∃ W, W = w5 := ⟨_, rfl⟩
  rw [← hwb] at hB xia xib xic xzero ia ib ic gz ⊢
  clear hwb
  have qia := xia.lt
  have qib := xib.lt
  have qic := xic.lt
  have qzero := xzero.lt
  obtain ⟨gia0, gia1, gia2, gia3⟩ := xia.cells4
  obtain ⟨gib0, gib1, gib2, gib3⟩ := xib.cells4
  obtain ⟨gic0, gic1, gic2, gic3⟩ := xic.cells4
  obtain ⟨gzero0, gzero1, gzero2, gzero3⟩ := xzero.cells4
  refine wp_region_noPanic ?_
  refine wp_region_held_drew (S := (fun w' => (w'.cell? ⟨w.heap.size, 0, none⟩ = some (.bool bia) ∧ w'.cell? ⟨w.heap.size, 1, none⟩ = some (.slice aia kia cia) ∧ w'.cell? ⟨w.heap.size, 2, none⟩ = some (.bool dia) ∧ w'.cell? ⟨w.heap.size, 3, none⟩ = some (.slice eia lia mia)) ∧ (w'.cell? ⟨w.heap.size + 1, 0, none⟩ = some (.bool bib) ∧ w'.cell? ⟨w.heap.size + 1, 1, none⟩ = some (.slice aib kib cib) ∧ w'.cell? ⟨w.heap.size + 1, 2, none⟩ = some (.bool dib) ∧ w'.cell? ⟨w.heap.size + 1, 3, none⟩ = some (.slice eib lib mib)) ∧ (w'.cell? ⟨w.heap.size + 1 + 1, 0, none⟩ = some (.bool bic) ∧ w'.cell? ⟨w.heap.size + 1 + 1, 1, none⟩ = some (.slice aic kic cic) ∧ w'.cell? ⟨w.heap.size + 1 + 1, 2, none⟩ = some (.bool dic) ∧ w'.cell? ⟨w.heap.size + 1 + 1, 3, none⟩ = some (.slice eic lic mic)) ∧ w'.cell? ⟨w3.heap.size, 0, none⟩ = some (.bool bz) ∧ w'.cell? ⟨w3.heap.size, 1, none⟩ = some (.slice az kz cz) ∧ w'.cell? ⟨w3.heap.size, 2, none⟩ = some (.bool dz) ∧ w'.cell? ⟨w3.heap.size, 3, none⟩ = some (.slice ez lz mz))) (by kernel_rfl) ⟨⟨gia0, gia1, gia2, gia3⟩, ⟨gib0, gib1, gib2, gib3⟩, ⟨gic0, gic1, gic2, gic3⟩, ⟨gzero0, gzero1, gzero2, gzero3⟩⟩ (fun hR0 => ?_)
  change wpAnyH _ _ _ _ _ 47 #[false, false, false, false, false, false, false, false, false, false, false, false, false, false, false, false, false, false, false, false, false, false, false, false, false, false, false, false, false, false, false, false, false, false, false, false, false, false, false, false, false, false, false, false, false, false, false] _ _
  clear gia0 gia1 gia2 gia3 gib0 gib1 gib2 gib3 gic0 gic1 gic2 gic3 gzero0 gzero1 gzero2 gzero3
  refine tk (i := 0) (v := ?_) rfl (by kernel_rfl) (fun _ _ _ h => h) (by rfl) ?_ (by assumption) ?_
  rotate_left 1
  · (intro w hSw; (try dsimp only at hSw); go_simp <;> (with_reducible rfl))
  (first | ((fail_if_success (unfold Act.put)); (try simp only [List.setIfInBounds_toArray, List.set])) | (try simp only [Act.put, List.setIfInBounds_toArray, List.set]))
  refine tk (i := 1) (v := ?_) rfl (by kernel_rfl) (fun _ _ _ h => h) (by rfl) ?_ (by assumption) ?_
  rotate_left 1
  · (intro w hSw; (try dsimp only at hSw); go_simp <;> (with_reducible rfl))
  (first | ((fail_if_success (unfold Act.put)); (try simp only [List.setIfInBounds_toArray, List.set])) | (try simp only [Act.put, List.setIfInBounds_toArray, List.set]))
  refine tk (i := 2) (v := ?_) rfl (by kernel_rfl) (fun _ _ _ h => h) (by rfl) ?_ (by assumption) ?_
  rotate_left 1
  · (intro w hSw; (try dsimp only at hSw); go_simp <;> (with_reducible rfl))
  (first | ((fail_if_success (unfold Act.put)); (try simp only [List.setIfInBounds_toArray, List.set])) | (try simp only [Act.put, List.setIfInBounds_toArray, List.set]))
  refine tk (i := 3) (v := ?_) rfl (by kernel_rfl) (fun _ _ _ h => h) (by rfl) ?_ (by assumption) ?_
  rotate_left 1
  · (intro w hSw; (try dsimp only at hSw); go_simp <;> (with_reducible rfl))
  (first | ((fail_if_success (unfold Act.put)); (try simp only [List.setIfInBounds_toArray, List.set])) | (try simp only [Act.put, List.setIfInBounds_toArray, List.set]))
  refine tk (i := 4) (v := ?_) rfl (by kernel_rfl) (fun _ _ _ h => h) (by rfl) ?_ (by assumption) ?_
  rotate_left 1
  · (intro w hSw; (try dsimp only at hSw); go_simp <;> (with_reducible rfl))
  (first | ((fail_if_success (unfold Act.put)); (try simp only [List.setIfInBounds_toArray, List.set])) | (try simp only [Act.put, List.setIfInBounds_toArray, List.set]))
  refine tk (i := 5) (v := ?_) rfl (by kernel_rfl) (fun _ _ _ h => h) (by rfl) ?_ (by assumption) ?_
  rotate_left 1
  · (intro w hSw; (try dsimp only at hSw); go_simp <;> (with_reducible rfl))
  (first | ((fail_if_success (unfold Act.put)); (try simp only [List.setIfInBounds_toArray, List.set])) | (try simp only [Act.put, List.setIfInBounds_toArray, List.set]))
  refine tk (i := 6) (v := ?_) rfl (by kernel_rfl) (fun _ _ _ h => h) (by rfl) ?_ (by assumption) ?_
  rotate_left 1
  · (intro w hSw; (try dsimp only at hSw); go_simp <;> (with_reducible rfl))
  (first | ((fail_if_success (unfold Act.put)); (try simp only [List.setIfInBounds_toArray, List.set])) | (try simp only [Act.put, List.setIfInBounds_toArray, List.set]))
  refine tk (i := 7) (v := ?_) rfl (by kernel_rfl) (fun _ _ _ h => h) (by rfl) ?_ (by assumption) ?_
  rotate_left 1
  · (intro w hSw; (try dsimp only at hSw); go_simp <;> (with_reducible rfl))
  (first | ((fail_if_success (unfold Act.put)); (try simp only [List.setIfInBounds_toArray, List.set])) | (try simp only [Act.put, List.setIfInBounds_toArray, List.set]))
  refine tk (i := 8) (v := ?_) rfl (by kernel_rfl) (fun _ _ _ h => h) (by rfl) ?_ (by assumption) ?_
  rotate_left 1
  · (intro w hSw; (try dsimp only at hSw); go_simp <;> (with_reducible rfl))
  (first | ((fail_if_success (unfold Act.put)); (try simp only [List.setIfInBounds_toArray, List.set])) | (try simp only [Act.put, List.setIfInBounds_toArray, List.set]))
  refine tk (i := 10) (v := ?_) rfl (by kernel_rfl) (fun _ _ _ h => h) (by rfl) ?_ (by assumption) ?_
  rotate_left 1
  · (intro w hSw; (try dsimp only at hSw); go_simp <;> (with_reducible rfl))
  (first | ((fail_if_success (unfold Act.put)); (try simp only [List.setIfInBounds_toArray, List.set])) | (try simp only [Act.put, List.setIfInBounds_toArray, List.set]))
  refine tk (i := 11) (v := ?_) rfl (by kernel_rfl) (fun _ _ _ h => h) (by rfl) ?_ (by assumption) ?_
  rotate_left 1
  · (intro w hSw; (try dsimp only at hSw); go_simp <;> (with_reducible rfl))
  (first | ((fail_if_success (unfold Act.put)); (try simp only [List.setIfInBounds_toArray, List.set])) | (try simp only [Act.put, List.setIfInBounds_toArray, List.set]))
  refine rd1 (i := 9) (by kernel_rfl) rfl (fun K hK => ?_)
  go_simp
  go_at_call 52; have hBd := hB.drew; refine (HK3.out _ _ _ (by exact ib) (by exact ia)).mono ?_; rintro e w6 ⟨rfl, hb⟩; replace hb := (Below.refl wb.heap.size wb).drew.trans hb; replace xia := xia.on hb; replace xib := xib.on hb; replace xic := xic.on hb; replace xzero := xzero.on hb; replace ia := ia.on hb; replace ib := ib.on hb; replace ic := ic.on hb; replace gz := gz.on hb; replace hB := hB.trans (hb.mono hB.size); have hz6 := hb.size
  (try go_wp2_with fail)
  refine hK.out _ _ (⟨keep4 hb qia hR0.1, keep4 hb qib hR0.2.1, keep4 hb qic hR0.2.2.1, keep4 hb qzero hR0.2.2.2⟩) (fun hR1 => ?_)
  clear hK K hR0
  (first | ((fail_if_success (unfold Act.put)); (try simp only [List.setIfInBounds_toArray, List.set])) | (try simp only [Act.put, List.setIfInBounds_toArray, List.set]))
  replace qia := Nat.lt_of_lt_of_le qia hz6
  replace qib := Nat.lt_of_lt_of_le qib hz6
  replace qic := Nat.lt_of_lt_of_le qic hz6
  replace qzero := Nat.lt_of_lt_of_le qzero hz6
  clear hb hBd
  refine tk (i := 12) (v := ?_) rfl (by kernel_rfl) (fun _ _ _ h => h) (by rfl) ?_ (by assumption) ?_
  rotate_left 1
  · (intro w hSw; (try dsimp only at hSw); go_simp <;> (with_reducible rfl))
  (first | ((fail_if_success (unfold Act.put)); (try simp only [List.setIfInBounds_toArray, List.set])) | (try simp only [Act.put, List.setIfInBounds_toArray, List.set]))
  refine tk (i := 13) (v := ?_) rfl (by kernel_rfl) (fun _ _ _ h => h) (by rfl) ?_ (by assumption) ?_
  rotate_left 1
  · (intro w hSw; (try dsimp only at hSw); go_simp <;> (with_reducible rfl))
  (first | ((fail_if_success (unfold Act.put)); (try simp only [List.setIfInBounds_toArray, List.set])) | (try simp only [Act.put, List.setIfInBounds_toArray, List.set]))
  refine tk (i := 14) (v := ?_) rfl (by kernel_rfl) (fun _ _ _ h => h) (by rfl) ?_ (by assumption) ?_
  rotate_left 1
  · (intro w hSw; (try dsimp only at hSw); go_simp <;> (with_reducible rfl))
  (first | ((fail_if_success (unfold Act.put)); (try simp only [List.setIfInBounds_toArray, List.set])) | (try simp only [Act.put, List.setIfInBounds_toArray, List.set]))
  refine tk (i := 15) (v := ?_) rfl (by kernel_rfl) (fun _ _ _ h => h) (by rfl) ?_ (by assumption) ?_
  rotate_left 1
  · (intro w hSw; (try dsimp only at hSw); go_simp <;> (with_reducible rfl))
  (first | ((fail_if_success (unfold Act.put)); (try simp only [List.setIfInBounds_toArray, List.set])) | (try simp only [Act.put, List.setIfInBounds_toArray, List.set]))
  refine tk (i := 16) (v := ?_) rfl (by kernel_rfl) (fun _ _ _ h => h) (by rfl) ?_ (by assumption) ?_
  rotate_left 1
  · (intro w hSw; (try dsimp only at hSw); go_simp <;> (with_reducible rfl))
  (first | ((fail_if_success (unfold Act.put)); (try simp only [List.setIfInBounds_toArray, List.set])) | (try simp only [Act.put, List.setIfInBounds_toArray, List.set]))
  refine tk (i := 18) (v := ?_) rfl (by kernel_rfl) (fun _ _ _ h => h) (by rfl) ?_ (by assumption) ?_
  rotate_left 1
  · (intro w hSw; (try dsimp only at hSw); go_simp <;> (with_reducible rfl))
  (first | ((fail_if_success (unfold Act.put)); (try simp only [List.setIfInBounds_toArray, List.set])) | (try simp only [Act.put, List.setIfInBounds_toArray, List.set]))
  refine tk (i := 20) (v := ?_) rfl (by kernel_rfl) (fun _ _ _ h => h) (by rfl) ?_ (by assumption) ?_
  rotate_left 1
  · (intro w hSw; (try dsimp only at hSw); go_simp <;> (with_reducible rfl))
  (first | ((fail_if_success (unfold Act.put)); (try simp only [List.setIfInBounds_toArray, List.set])) | (try simp only [Act.put, List.setIfInBounds_toArray, List.set]))
  refine rd1 (i := 17) (by kernel_rfl) rfl (fun K hK => ?_)
  go_simp
  go_at_call 46; have hBd := hB; refine (HK4.out _ _ _ ia ib).mono ?_; rintro e w7 ⟨⟨vg1, rfl, g1⟩, hb⟩; replace xia := xia.on hb; replace xib := xib.on hb; replace xic := xic.on hb; replace xzero := xzero.on hb; replace ia := ia.on hb; replace ib := ib.on hb; replace ic := ic.on hb; replace gz := gz.on hb; replace hB := hB.trans (hb.mono hB.size); have hz7 := hb.size
  (try go_wp2_with fail)
  refine hK.out _ _ (⟨keep4 hb qia hR1.1, keep4 hb qib hR1.2.1, keep4 hb qic hR1.2.2.1, keep4 hb qzero hR1.2.2.2⟩) (fun hR2 => ?_)
  clear hK K hR1
  (first | ((fail_if_success (unfold Act.put)); (try simp only [List.setIfInBounds_toArray, List.set])) | (try simp only [Act.put, List.setIfInBounds_toArray, List.set]))
  replace qia := Nat.lt_of_lt_of_le qia hz7
  replace qib := Nat.lt_of_lt_of_le qib hz7
  replace qic := Nat.lt_of_lt_of_le qic hz7
  replace qzero := Nat.lt_of_lt_of_le qzero hz7
  clear hb hBd
  refine rd1 (i := 19) (by kernel_rfl) rfl (fun K hK => ?_)
  go_simp
  go_at_call 52; have hBd := hB; refine (HK5.out _ _ _ g1 gz).mono ?_; rintro e w8 ⟨rfl, hb⟩; replace xia := xia.on hb; replace xib := xib.on hb; replace xic := xic.on hb; replace xzero := xzero.on hb; replace ia := ia.on hb; replace ib := ib.on hb; replace ic := ic.on hb; replace gz := gz.on hb; replace g1 := g1.on hb; replace hB := hB.trans (hb.mono hB.size); have hz8 := hb.size
  (try go_wp2_with fail)
  refine hK.out _ _ (⟨keep4 hb qia hR2.1, keep4 hb qib hR2.2.1, keep4 hb qic hR2.2.2.1, keep4 hb qzero hR2.2.2.2⟩) (fun hR3 => ?_)
  clear hK K hR2
  (first | ((fail_if_success (unfold Act.put)); (try simp only [List.setIfInBounds_toArray, List.set])) | (try simp only [Act.put, List.setIfInBounds_toArray, List.set]))
  replace qia := Nat.lt_of_lt_of_le qia hz8
  replace qib := Nat.lt_of_lt_of_le qib hz8
  replace qic := Nat.lt_of_lt_of_le qic hz8
  replace qzero := Nat.lt_of_lt_of_le qzero hz8
  clear hb hBd
  refine tk (i := 21) (v := ?_) rfl (by kernel_rfl) (fun _ _ _ h => h) (by rfl) ?_ (by assumption) ?_
  rotate_left 1
  · (intro w hSw; (try dsimp only at hSw); go_simp <;> (with_reducible rfl))
  (first | ((fail_if_success (unfold Act.put)); (try simp only [List.setIfInBounds_toArray, List.set])) | (try simp only [Act.put, List.setIfInBounds_toArray, List.set]))
  refine tk (i := 22) (v := ?_) rfl (by kernel_rfl) (fun _ _ _ h => h) (by rfl) ?_ (by assumption) ?_
  rotate_left 1
  · (intro w hSw; (try dsimp only at hSw); go_simp <;> (with_reducible rfl))
  (first | ((fail_if_success (unfold Act.put)); (try simp only [List.setIfInBounds_toArray, List.set])) | (try simp only [Act.put, List.setIfInBounds_toArray, List.set]))
  refine tk (i := 23) (v := ?_) rfl (by kernel_rfl) (fun _ _ _ h => h) (by rfl) ?_ (by assumption) ?_
  rotate_left 1
  · (intro w hSw; (try dsimp only at hSw); go_simp <;> (with_reducible rfl))
  (first | ((fail_if_success (unfold Act.put)); (try simp only [List.setIfInBounds_toArray, List.set])) | (try simp only [Act.put, List.setIfInBounds_toArray, List.set]))
  refine tk (i := 24) (v := ?_) rfl (by kernel_rfl) (fun _ _ _ h => h) (by rfl) ?_ (by assumption) ?_
  rotate_left 1
  · (intro w hSw; (try dsimp only at hSw); go_simp <;> (with_reducible rfl))
  (first | ((fail_if_success (unfold Act.put)); (try simp only [List.setIfInBounds_toArray, List.set])) | (try simp only [Act.put, List.setIfInBounds_toArray, List.set]))
  refine tk (i := 25) (v := ?_) rfl (by kernel_rfl) (fun _ _ _ h => h) (by rfl) ?_ (by assumption) ?_
  rotate_left 1
  · (intro w hSw; (try dsimp only at hSw); go_simp <;> (with_reducible rfl))
  (first | ((fail_if_success (unfold Act.put)); (try simp only [List.setIfInBounds_toArray, List.set])) | (try simp only [Act.put, List.setIfInBounds_toArray, List.set]))
  refine tk (i := 27) (v := ?_) rfl (by kernel_rfl) (fun _ _ _ h => h) (by rfl) ?_ (by assumption) ?_
  rotate_left 1
  · (intro w hSw; (try dsimp only at hSw); go_simp <;> (with_reducible rfl))
  (first | ((fail_if_success (unfold Act.put)); (try simp only [List.setIfInBounds_toArray, List.set])) | (try simp only [Act.put, List.setIfInBounds_toArray, List.set]))
  refine tk (i := 28) (v := ?_) rfl (by kernel_rfl) (fun _ _ _ h => h) (by rfl) ?_ (by assumption) ?_
  rotate_left 1
  · (intro w hSw; (try dsimp only at hSw); go_simp <;> (with_reducible rfl))
  (first | ((fail_if_success (unfold Act.put)); (try simp only [List.setIfInBounds_toArray, List.set])) | (try simp only [Act.put, List.setIfInBounds_toArray, List.set]))
  refine tk (i := 31) (v := ?_) rfl (by kernel_rfl) (fun _ _ _ h => h) (by rfl) ?_ (by assumption) ?_
  rotate_left 1
  · (intro w hSw; (try dsimp only at hSw); go_simp <;> (with_reducible rfl))
  (first | ((fail_if_success (unfold Act.put)); (try simp only [List.setIfInBounds_toArray, List.set])) | (try simp only [Act.put, List.setIfInBounds_toArray, List.set]))
  refine rd1 (i := 26) (by kernel_rfl) rfl (fun K hK => ?_)
  go_simp
  go_at_call 44; have hBd := hB; refine (HK6.out _ _ _ ia ic).mono ?_; rintro e w9 ⟨⟨vg2, rfl, g2⟩, hb⟩; replace xia := xia.on hb; replace xib := xib.on hb; replace xic := xic.on hb; replace xzero := xzero.on hb; replace ia := ia.on hb; replace ib := ib.on hb; replace ic := ic.on hb; replace gz := gz.on hb; replace g1 := g1.on hb; replace hB := hB.trans (hb.mono hB.size); have hz9 := hb.size
  (try go_wp2_with fail)
  refine hK.out _ _ (⟨keep4 hb qia hR3.1, keep4 hb qib hR3.2.1, keep4 hb qic hR3.2.2.1, keep4 hb qzero hR3.2.2.2⟩) (fun hR4 => ?_)
  clear hK K hR3
  (first | ((fail_if_success (unfold Act.put)); (try simp only [List.setIfInBounds_toArray, List.set])) | (try simp only [Act.put, List.setIfInBounds_toArray, List.set]))
  replace qia := Nat.lt_of_lt_of_le qia hz9
  replace qib := Nat.lt_of_lt_of_le qib hz9
  replace qic := Nat.lt_of_lt_of_le qic hz9
  replace qzero := Nat.lt_of_lt_of_le qzero hz9
  clear hb hBd
  refine rd1 (i := 29) (by kernel_rfl) rfl (fun K hK => ?_)
  go_simp
  go_at_call 44; have hBd := hB; refine (HK7.out _ _ _ ib ic).mono ?_; rintro e w10 ⟨⟨vg3, rfl, g3⟩, hb⟩; replace xia := xia.on hb; replace xib := xib.on hb; replace xic := xic.on hb; replace xzero := xzero.on hb; replace ia := ia.on hb; replace ib := ib.on hb; replace ic := ic.on hb; replace gz := gz.on hb; replace g1 := g1.on hb; replace g2 := g2.on hb; replace hB := hB.trans (hb.mono hB.size); have hz10 := hb.size
  (try go_wp2_with fail)
  refine hK.out _ _ (⟨keep4 hb qia hR4.1, keep4 hb qib hR4.2.1, keep4 hb qic hR4.2.2.1, keep4 hb qzero hR4.2.2.2⟩) (fun hR5 => ?_)
  clear hK K hR4
  (first | ((fail_if_success (unfold Act.put)); (try simp only [List.setIfInBounds_toArray, List.set])) | (try simp only [Act.put, List.setIfInBounds_toArray, List.set]))
  replace qia := Nat.lt_of_lt_of_le qia hz10
  replace qib := Nat.lt_of_lt_of_le qib hz10
  replace qic := Nat.lt_of_lt_of_le qic hz10
  replace qzero := Nat.lt_of_lt_of_le qzero hz10
  clear hb hBd
  refine rd1 (i := 30) (by kernel_rfl) rfl (fun K hK => ?_)
  go_simp
  go_at_call 52; have hBd := hB; refine (HK8.out _ _ _ g2 g3).mono ?_; rintro e w11 ⟨rfl, hb⟩; replace xia := xia.on hb; replace xib := xib.on hb; replace xic := xic.on hb; replace xzero := xzero.on hb; replace ia := ia.on hb; replace ib := ib.on hb; replace ic := ic.on hb; replace gz := gz.on hb; replace g1 := g1.on hb; replace g2 := g2.on hb; replace g3 := g3.on hb; replace hB := hB.trans (hb.mono hB.size); have hz11 := hb.size
  (try go_wp2_with fail)
  refine hK.out _ _ (⟨keep4 hb qia hR5.1, keep4 hb qib hR5.2.1, keep4 hb qic hR5.2.2.1, keep4 hb qzero hR5.2.2.2⟩) (fun hR6 => ?_)
  clear hK K hR5
  (first | ((fail_if_success (unfold Act.put)); (try simp only [List.setIfInBounds_toArray, List.set])) | (try simp only [Act.put, List.setIfInBounds_toArray, List.set]))
  replace qia := Nat.lt_of_lt_of_le qia hz11
  replace qib := Nat.lt_of_lt_of_le qib hz11
  replace qic := Nat.lt_of_lt_of_le qic hz11
  replace qzero := Nat.lt_of_lt_of_le qzero hz11
  clear hb hBd
  refine tk (i := 32) (v := ?_) rfl (by kernel_rfl) (fun _ _ _ h => h) (by rfl) ?_ (by assumption) ?_
  rotate_left 1
  · (intro w hSw; (try dsimp only at hSw); go_simp <;> (with_reducible rfl))
  (first | ((fail_if_success (unfold Act.put)); (try simp only [List.setIfInBounds_toArray, List.set])) | (try simp only [Act.put, List.setIfInBounds_toArray, List.set]))
  refine tk (i := 33) (v := ?_) rfl (by kernel_rfl) (fun _ _ _ h => h) (by rfl) ?_ (by assumption) ?_
  rotate_left 1
  · (intro w hSw; (try dsimp only at hSw); go_simp <;> (with_reducible rfl))
  (first | ((fail_if_success (unfold Act.put)); (try simp only [List.setIfInBounds_toArray, List.set])) | (try simp only [Act.put, List.setIfInBounds_toArray, List.set]))
  refine tk (i := 34) (v := ?_) rfl (by kernel_rfl) (fun _ _ _ h => h) (by rfl) ?_ (by assumption) ?_
  rotate_left 1
  · (intro w hSw; (try dsimp only at hSw); go_simp <;> (with_reducible rfl))
  (first | ((fail_if_success (unfold Act.put)); (try simp only [List.setIfInBounds_toArray, List.set])) | (try simp only [Act.put, List.setIfInBounds_toArray, List.set]))
  refine tk (i := 35) (v := ?_) rfl (by kernel_rfl) (fun _ _ _ h => h) (by rfl) ?_ (by assumption) ?_
  rotate_left 1
  · (intro w hSw; (try dsimp only at hSw); go_simp <;> (with_reducible rfl))
  (first | ((fail_if_success (unfold Act.put)); (try simp only [List.setIfInBounds_toArray, List.set])) | (try simp only [Act.put, List.setIfInBounds_toArray, List.set]))
  refine tk (i := 36) (v := ?_) rfl (by kernel_rfl) (fun _ _ _ h => h) (by rfl) ?_ (by assumption) ?_
  rotate_left 1
  · (intro w hSw; (try dsimp only at hSw); go_simp <;> (with_reducible rfl))
  (first | ((fail_if_success (unfold Act.put)); (try simp only [List.setIfInBounds_toArray, List.set])) | (try simp only [Act.put, List.setIfInBounds_toArray, List.set]))
  refine tk (i := 38) (v := ?_) rfl (by kernel_rfl) (fun _ _ _ h => h) (by rfl) ?_ (by assumption) ?_
  rotate_left 1
  · (intro w hSw; (try dsimp only at hSw); go_simp <;> (with_reducible rfl))
  (first | ((fail_if_success (unfold Act.put)); (try simp only [List.setIfInBounds_toArray, List.set])) | (try simp only [Act.put, List.setIfInBounds_toArray, List.set]))
  refine tk (i := 39) (v := ?_) rfl (by kernel_rfl) (fun _ _ _ h => h) (by rfl) ?_ (by assumption) ?_
  rotate_left 1
  · (intro w hSw; (try dsimp only at hSw); go_simp <;> (with_reducible rfl))
  (first | ((fail_if_success (unfold Act.put)); (try simp only [List.setIfInBounds_toArray, List.set])) | (try simp only [Act.put, List.setIfInBounds_toArray, List.set]))
  refine tk (i := 42) (v := ?_) rfl (by kernel_rfl) (fun _ _ _ h => h) (by rfl) ?_ (by assumption) ?_
  rotate_left 1
  · (intro w hSw; (try dsimp only at hSw); go_simp <;> (with_reducible rfl))
  (first | ((fail_if_success (unfold Act.put)); (try simp only [List.setIfInBounds_toArray, List.set])) | (try simp only [Act.put, List.setIfInBounds_toArray, List.set]))
  refine tk (i := 43) (v := ?_) rfl (by kernel_rfl) (fun _ _ _ h => h) (by rfl) ?_ (by assumption) ?_
  rotate_left 1
  · (intro w hSw; (try dsimp only at hSw); go_simp <;> (with_reducible rfl))
  (first | ((fail_if_success (unfold Act.put)); (try simp only [List.setIfInBounds_toArray, List.set])) | (try simp only [Act.put, List.setIfInBounds_toArray, List.set]))
  refine tk (i := 44) (v := ?_) rfl (by kernel_rfl) (fun _ _ _ h => h) (by rfl) ?_ (by assumption) ?_
  rotate_left 1
  · (intro w hSw; (try dsimp only at hSw); go_simp <;> (with_reducible rfl))
  (first | ((fail_if_success (unfold Act.put)); (try simp only [List.setIfInBounds_toArray, List.set])) | (try simp only [Act.put, List.setIfInBounds_toArray, List.set]))
  refine rd1 (i := 37) (by kernel_rfl) rfl (fun K hK => ?_)
  go_simp
  go_at_call 45; have hBd := hB; refine (HK9.out _ _ _ ia ic).mono ?_; rintro e w12 ⟨⟨vg4, rfl, g4⟩, hb⟩; replace xia := xia.on hb; replace xib := xib.on hb; replace xic := xic.on hb; replace xzero := xzero.on hb; replace ia := ia.on hb; replace ib := ib.on hb; replace ic := ic.on hb; replace gz := gz.on hb; replace g1 := g1.on hb; replace g2 := g2.on hb; replace g3 := g3.on hb; replace hB := hB.trans (hb.mono hB.size); have hz12 := hb.size
  (try go_wp2_with fail)
  refine hK.out _ _ (⟨keep4 hb qia hR6.1, keep4 hb qib hR6.2.1, keep4 hb qic hR6.2.2.1, keep4 hb qzero hR6.2.2.2⟩) (fun hR7 => ?_)
  clear hK K hR6
  (first | ((fail_if_success (unfold Act.put)); (try simp only [List.setIfInBounds_toArray, List.set])) | (try simp only [Act.put, List.setIfInBounds_toArray, List.set]))
  replace qia := Nat.lt_of_lt_of_le qia hz12
  replace qib := Nat.lt_of_lt_of_le qib hz12
  replace qic := Nat.lt_of_lt_of_le qic hz12
  replace qzero := Nat.lt_of_lt_of_le qzero hz12
  clear hb hBd
  refine rd1 (i := 40) (by kernel_rfl) rfl (fun K hK => ?_)
  go_simp
  go_at_call 45; have hBd := hB; refine (HK10.out _ _ _ ib ic).mono ?_; rintro e w13 ⟨⟨vg5, rfl, g5⟩, hb⟩; replace xia := xia.on hb; replace xib := xib.on hb; replace xic := xic.on hb; replace xzero := xzero.on hb; replace ia := ia.on hb; replace ib := ib.on hb; replace ic := ic.on hb; replace gz := gz.on hb; replace g1 := g1.on hb; replace g2 := g2.on hb; replace g3 := g3.on hb; replace g4 := g4.on hb; replace hB := hB.trans (hb.mono hB.size); have hz13 := hb.size
  (try go_wp2_with fail)
  refine hK.out _ _ (⟨keep4 hb qia hR7.1, keep4 hb qib hR7.2.1, keep4 hb qic hR7.2.2.1, keep4 hb qzero hR7.2.2.2⟩) (fun hR8 => ?_)
  clear hK K hR7
  (first | ((fail_if_success (unfold Act.put)); (try simp only [List.setIfInBounds_toArray, List.set])) | (try simp only [Act.put, List.setIfInBounds_toArray, List.set]))
  replace qia := Nat.lt_of_lt_of_le qia hz13
  replace qib := Nat.lt_of_lt_of_le qib hz13
  replace qic := Nat.lt_of_lt_of_le qic hz13
  replace qzero := Nat.lt_of_lt_of_le qzero hz13
  clear hb hBd
  refine rd1 (i := 41) (by kernel_rfl) rfl (fun K hK => ?_)
  go_simp
  go_at_call 52; have hBd := hB; refine (HK11.out _ _ _ g4 g5).mono ?_; rintro e w14 ⟨rfl, hb⟩; replace xia := xia.on hb; replace xib := xib.on hb; replace xic := xic.on hb; replace xzero := xzero.on hb; replace ia := ia.on hb; replace ib := ib.on hb; replace ic := ic.on hb; replace gz := gz.on hb; replace g1 := g1.on hb; replace g2 := g2.on hb; replace g3 := g3.on hb; replace g4 := g4.on hb; replace g5 := g5.on hb; replace hB := hB.trans (hb.mono hB.size); have hz14 := hb.size
  (try go_wp2_with fail)
  refine hK.out _ _ (⟨keep4 hb qia hR8.1, keep4 hb qib hR8.2.1, keep4 hb qic hR8.2.2.1, keep4 hb qzero hR8.2.2.2⟩) (fun hR9 => ?_)
  clear hK K hR8
  (first | ((fail_if_success (unfold Act.put)); (try simp only [List.setIfInBounds_toArray, List.set])) | (try simp only [Act.put, List.setIfInBounds_toArray, List.set]))
  replace qia := Nat.lt_of_lt_of_le qia hz14
  replace qib := Nat.lt_of_lt_of_le qib hz14
  replace qic := Nat.lt_of_lt_of_le qic hz14
  replace qzero := Nat.lt_of_lt_of_le qzero hz14
  clear hb hBd
  refine tk (i := 45) (v := ?_) rfl (by kernel_rfl) (fun _ _ _ h => h) (by rfl) ?_ (by assumption) ?_
  rotate_left 1
  · (intro w hSw; (try dsimp only at hSw); go_simp <;> (with_reducible rfl))
  (first | ((fail_if_success (unfold Act.put)); (try simp only [List.setIfInBounds_toArray, List.set])) | (try simp only [Act.put, List.setIfInBounds_toArray, List.set]))
  refine tk (i := 46) (v := ?_) rfl (by kernel_rfl) (fun _ _ _ h => h) (by rfl) ?_ (by assumption) ?_
  rotate_left 1
  · (intro w hSw; (try dsimp only at hSw); go_simp <;> (with_reducible rfl))
  (first | ((fail_if_success (unfold Act.put)); (try simp only [List.setIfInBounds_toArray, List.set])) | (try simp only [Act.put, List.setIfInBounds_toArray, List.set]))
  refine wpAnyH_done (by kernel_rfl) ?_ _
  refine NoPanic.normal ?_
  clear hR9
  clear qia qib qic qzero
  clear g1
  clear g2
  clear g3
  clear g4
  clear g5
  clear hab q1 q2 q3 q4 q5 q6 q7 q8 q9 q10
  rcases cmpR_cases b c with hbc | hbc | hbc
  · have HT := HT.out
    rw [cmpR_lt hbc] at HT
    replace HT := Lib.hid HT
    have pia := xia.all4
    have pib := xib.all4
    have pic := xic.all4
    have pzero := xzero.all4
    have ltia := xia.lt
    have ltib := xib.lt
    have ltic := xic.lt
    have ltzero := xzero.lt
    go_wp2_with fail
    clear ltia
    clear ltib
    clear ltic
    clear ltzero
    clear pia pib pic pzero
    refine (HT.out _ _ _ ib ic).mono ?_
    rintro e w15 ⟨rfl, hb⟩
    replace xia := xia.on hb
    replace xib := xib.on hb
    replace xic := xic.on hb
    replace xzero := xzero.on hb
    replace ia := ia.on hb
    replace ib := ib.on hb
    replace ic := ic.on hb
    replace gz := gz.on hb
    have hz15 := hb.size
    try simp at hz15
    replace hB := hB.trans (hb.mono hB.size)
    clear hb
    go_wp2
    go_ret
    exact ⟨rfl, hB⟩
  · have HT := HT.out
    rw [cmpR_same hbc] at HT
    replace HT := Lib.hid HT
    have pia := xia.all4
    have pib := xib.all4
    have pic := xic.all4
    have pzero := xzero.all4
    have ltia := xia.lt
    have ltib := xib.lt
    have ltic := xic.lt
    have ltzero := xzero.lt
    go_wp2_with fail
    clear ltia
    clear ltib
    clear ltic
    clear ltzero
    clear pia pib pic pzero
    refine (HT.out _ _ _ ib ic).mono ?_
    rintro e w15 ⟨rfl, hb⟩
    replace xia := xia.on hb
    replace xib := xib.on hb
    replace xic := xic.on hb
    replace xzero := xzero.on hb
    replace ia := ia.on hb
    replace ib := ib.on hb
    replace ic := ic.on hb
    replace gz := gz.on hb
    have hz15 := hb.size
    try simp at hz15
    replace hB := hB.trans (hb.mono hB.size)
    clear hb
    go_wp2
    go_ret
    exact ⟨rfl, hB⟩
  · have HT := HT.out
    rw [cmpR_gt hbc] at HT
    replace HT := Lib.hid HT
    have HA := Lib.hid (fun vx vy W (h : Fra W vx a) (g : Fra W vy c) => frCmp_lit vx vy a c 1 (cmpR_gt (have hab := HAB.out; by grind)) (Fz.mono (q := a) sa (by decide) (by decide)) (Fz.mono (q := c) sc (by decide) (by decide)) W h g)
    have pia := xia.all4
    have pib := xib.all4
    have pic := xic.all4
    have pzero := xzero.all4
    have ltia := xia.lt
    have ltib := xib.lt
    have ltic := xic.lt
    have ltzero := xzero.lt
    go_wp2_with fail
    clear ltia
    clear ltib
    clear ltic
    clear ltzero
    clear pia pib pic pzero
    refine (HT.out _ _ _ ib ic).mono ?_
    rintro e w15 ⟨rfl, hb⟩
    replace xia := xia.on hb
    replace xib := xib.on hb
    replace xic := xic.on hb
    replace xzero := xzero.on hb
    replace ia := ia.on hb
    replace ib := ib.on hb
    replace ic := ic.on hb
    replace gz := gz.on hb
    have hz15 := hb.size
    try simp at hz15
    replace hB := hB.trans (hb.mono hB.size)
    clear hb
    have pia := xia.all4
    have pib := xib.all4
    have pic := xic.all4
    have pzero := xzero.all4
    have ltia := xia.lt
    have ltib := xib.lt
    have ltic := xic.lt
    have ltzero := xzero.lt
    go_wp2_with fail
    clear ltia
    clear ltib
    clear ltic
    clear ltzero
    clear pia pib pic pzero
    refine (HA.out _ _ _ ia ic).mono ?_
    rintro e w16 ⟨rfl, hb⟩
    replace xia := xia.on hb
    replace xib := xib.on hb
    replace xic := xic.on hb
    replace xzero := xzero.on hb
    replace ia := ia.on hb
    replace ib := ib.on hb
    replace ic := ic.on hb
    replace gz := gz.on hb
    have hz16 := hb.size
    try simp at hz16
    replace hB := hB.trans (hb.mono hB.size)
    clear hb
    go_wp2
    go_ret
    exact ⟨rfl, hB⟩
theorem FracOrder_core (a b c : Rat) (sa : Fz 40 40 a) (sb : Fz 40 40 b) (sc : Fz 40 40 c) (bia : Bool) (aia : Option Addr) (kia cia : Nat) (dia : Bool) (eia : Option Addr) (lia mia : Nat) (bib : Bool) (aib : Option Addr) (kib cib : Nat) (dib : Bool) (eib : Option Addr) (lib mib : Nat) (bic : Bool) (aic : Option Addr) (kic cic : Nat) (dic : Bool) (eic : Option Addr) (lic mic : Nat) (w : World) (ia : Fra w (.agg #[.bool bia, .slice aia kia cia, .bool dia, .slice eia lia mia]) a) (ib : Fra w (.agg #[.bool bib, .slice aib kib cib, .bool dib, .slice eib lib mib]) b) (ic : Fra w (.agg #[.bool bic, .slice aic kic cic, .bool dic, .slice eic lic mic]) c) :
    Calls Tryz.prog 9 #[.agg #[.bool bia, .slice aia kia cia, .bool dia, .slice eia lia mia], .agg #[.bool bib, .slice aib kib cib, .bool dib, .slice eib lib mib], .agg #[.bool bic, .slice aic kic cic, .bool dic, .slice eic lic mic]] w fun e w' => e = .returned (.bool true) ∧ Below w.heap.size w w' := by
  rcases cmpR_cases a b with h | h | h
  · exact FracOrder_l a b c sa sb sc bia aia kia cia dia eia lia mia bib aib kib cib dib eib lib mib bic aic kic cic dic eic lic mic h w ia ib ic
  · exact FracOrder_e a b c sa sb sc bia aia kia cia dia eia lia mia bib aib kib cib dib eib lib mib bic aic kic cic dic eic lic mic h w ia ib ic
  · exact FracOrder_g a b c sa sb sc bia aia kia cia dia eia lia mia bib aib kib cib dib eib lib mib bic aic kic cic dic eic lic mic h w ia ib ic
end Go.Proofs.YthlclegajldphaaGreat
