/- A part of the proofs about fractions. -/
import Derived.Test.YthlclegajldphaaGreatQz1
import Derived.Test.YthlclegajldphaaGreatQz2
import Derived.Test.YthlclegajldphaaGreatQz3
import Derived.Test.YthlclegajldphaaGreatQz4
import Derived.Test.YthlclegajldphaaGreatQz5
import Derived.Test.YthlclegajldphaaGreatQz6
import Derived.Test.YthlclegajldphaaGreatQz7
import Derived.Test.YthlclegajldphaaGreatQz8
import Derived.Test.YthlclegajldphaaGreatQz9
import Derived.Test.YthlclegajldphaaGreatQz10
import Derived.Test.YthlclegajldphaaGreatQz11
import Derived.Test.YthlclegajldphaaGreatQz12
import Derived.Test.YthlclegajldphaaGreatQz13
import Derived.Test.YthlclegajldphaaGreatQz14
import Derived.Test.YthlclegajldphaaGreatQz15
import Derived.Test.YthlclegajldphaaGreatQz16
import Derived.Test.YthlclegajldphaaGreatQz17
import Derived.Test.YthlclegajldphaaGreatQz18
import Derived.Test.YthlclegajldphaaGreatQz19
import Derived.Test.YthlclegajldphaaGreatQz20
import Derived.Test.YthlclegajldphaaGreatQz21
import Derived.Test.YthlclegajldphaaGreatQz22
import Derived.Test.YthlclegajldphaaGreatQz23
import Derived.Test.YthlclegajldphaaGreatQz24
import Derived.Test.YthlclegajldphaaGreatQz25
import Derived.Test.YthlclegajldphaaGreatQz26
import Derived.Test.YthlclegajldphaaGreatQz27
import Derived.Test.YthlclegajldphaaGreatQz28
import Derived.Test.YthlclegajldphaaGreatRows
import Derived.Test.YthlclegajldphaaGreatQPowers1
namespace Go.Proofs.YthlclegajldphaaGreat
open Go.RowKit Wh
theorem frPow_lit0 (va : Value) (n : Int) (hn : n < 0) (hn1 : -9223372036854775808 ≤ n) (w : World) (h : Fra w va 0) :
    Calls Tryz.prog 32 #[va, .int .i64 n] w fun e w' => e = .returned (.tuple #[.agg #[.bool false, .slice none 0 0, .bool false, .slice none 0 0], .int .i64 20]) ∧ Below w.heap.size w w' := by
  obtain ⟨m, rfl⟩ : ∃ m : Nat, n = -(m : Int) := ⟨n.natAbs, by omega⟩
  obtain ⟨b, a, k, c, b', a', k', c', rfl⟩ := h.opened
  exact frPow_zero b a k c b' a' k' c' 0 (Fz.zero.mono (by decide) (by decide)) m (by omega) rfl w h
set_option maxRecDepth 100000 in
set_option maxHeartbeats 8000000 in
theorem FracPowers_more (a b : Rat) (sa : Fz 8 8 a) (sb : Fz 8 8 b) (bia : Bool) (aia : Option Addr) (kia cia : Nat) (dia : Bool) (eia : Option Addr) (lia mia : Nat) (bib : Bool) (aib : Option Addr) (kib cib : Nat) (dib : Bool) (eib : Option Addr) (lib mib : Nat) (m n : Int) (ha : a ≠ 0) (hb : b ≠ 0) (w : World) (ia : Fra w (.agg #[.bool bia, .slice aia kia cia, .bool dia, .slice eia lia mia]) a) (ib : Fra w (.agg #[.bool bib, .slice aib kib cib, .bool dib, .slice eib lib mib]) b) :
    Calls Tryz.prog 13 #[.agg #[.bool bia, .slice aia kia cia, .bool dia, .slice eia lia mia], .agg #[.bool bib, .slice aib kib cib, .bool dib, .slice eib lib mib], .int .i64 m, .int .i64 n] w fun e w' => e = .returned (.bool true) ∧ Below w.heap.size w w' := by
  obtain ⟨M, hM⟩ : ∃ M, M = m.tmod 6 := ⟨_, rfl⟩
  obtain ⟨N, hN⟩ : ∃ N, N = n.tmod 6 := ⟨_, rfl⟩
  have hM1 := rem6 m
  have hN1 := rem6 n
  rw [← hM] at hM1
  rw [← hN] at hN1
  have eM : m.tmod 6 = M := hM.symm
  have eN : n.tmod 6 = N := hN.symm
  have eS : IntKind.i64.wrap (M + N) = M + N := by rw [IntKind.wrap_i64]; omega
  have eU : IntKind.i64.wrap (-M) = -M := by rw [IntKind.wrap_i64]; omega
  have hq : Fz 256 256 a := sa.mono (by decide) (by decide)
  have hqb : Fz 256 256 b := sb.mono (by decide) (by decide)
  have HP0 := Lib.hid (fun va W (h : Fra W va a) => frPow_lit va a 1 0 (Rat.zpow_zero a) (by decide) (by decide) (.inr (by decide)) hq (Fz.one.mono (by decide) (by decide)) W h)
  have HP1 := Lib.hid (fun va W (h : Fra W va a) => frPow_lit va a a 1 (Rat.zpow_one a) (by decide) (by decide) (.inr (by decide)) hq hq W h)
  have HE1 := Lib.hid (fun va vb W (h : Fra W va 1) (g : Fra W vb 1) => law2_equal_any va vb 1 (Fz.one.mono (by decide) (by decide)) W h g)
  have HEa := Lib.hid (fun va vb W (h : Fra W va a) (g : Fra W vb a) => law2_equal_any va vb a hq W h g)
  have H1 := Lib.hid (fun W => frFromInt_lit 1 1 (by decide +kernel) (by decide) (by decide) W)
  have fab : Fz 256 256 (a * b) := (Fz.mul sa sb).mono (by decide) (by decide)
  have hab : a * b ≠ 0 := fun e => by grind
  have Fp : Fz 256 256 (a ^ M) := Fz.zpow (k := 8) (j := 5) sa ha _ (by omega) (by decide)
  have Hp := Lib.hid (fun va W (h : Fra W va a) => frPow_lit va a (a ^ M) M rfl (by omega) (by omega) (.inl ha) hq Fp W h)
  have Fq : Fz 256 256 (a ^ N) := Fz.zpow (k := 8) (j := 5) sa ha _ (by omega) (by decide)
  have Hq := Lib.hid (fun va W (h : Fra W va a) => frPow_lit va a (a ^ N) N rfl (by omega) (by omega) (.inl ha) hq Fq W h)
  have Fr : Fz 256 256 (a ^ (M + N)) := Fz.zpow (k := 8) (j := 10) sa ha _ (by omega) (by decide)
  have Hr := Lib.hid (fun va W (h : Fra W va a) => frPow_lit va a (a ^ (M + N)) (M + N) rfl (by omega) (by omega) (.inl ha) hq Fr W h)
  have Fs : Fz 256 256 (b ^ M) := Fz.zpow (k := 8) (j := 5) sb hb _ (by omega) (by decide)
  have Hs := Lib.hid (fun va W (h : Fra W va b) => frPow_lit va b (b ^ M) M rfl (by omega) (by omega) (.inl hb) hqb Fs W h)
  have Ft : Fz 256 256 ((a * b) ^ M) := Fz.zpow (k := 16) (j := 5) (Fz.mul sa sb) hab _ (by omega) (by decide)
  have Ht := Lib.hid (fun va W (h : Fra W va (a * b)) => frPow_lit va (a * b) ((a * b) ^ M) M rfl (by omega) (by omega) (.inl hab) fab Ft W h)
  have Fu : Fz 256 256 (a ^ (-M)) := Fz.zpow (k := 8) (j := 5) sa ha _ (by omega) (by decide)
  have Hu := Lib.hid (fun va W (h : Fra W va a) => frPow_lit va a (a ^ (-M)) (-M) rfl (by omega) (by omega) (.inl ha) hq Fu W h)
  have HX := Lib.hid (fun va vb W (h : Fra W va a) (g : Fra W vb b) => law2_product_any va vb a b (a * b) rfl hq hqb fab W h g)
  have HY1 := Lib.hid (fun va vb W (h : Fra W va (a ^ M)) (g : Fra W vb (a ^ N)) => law2_product_any va vb _ _ (a ^ (M + N)) (Rat.zpow_add ha M N).symm Fp Fq Fr W h g)
  have HY2 := Lib.hid (fun va vb W (h : Fra W va (a ^ M)) (g : Fra W vb (b ^ M)) => law2_product_any va vb _ _ ((a * b) ^ M) (mul_zpow ha hb M) Fp Fs Ft W h g)
  have HY3 := Lib.hid (fun va vb W (h : Fra W va (a ^ M)) (g : Fra W vb (a ^ (-M))) => law2_product_any va vb _ _ 1 (zpow_back ha M) Fp Fu (Fz.one.mono (by decide) (by decide)) W h g)
  have HEr := Lib.hid (fun va vb W (h : Fra W va (a ^ (M + N))) (g : Fra W vb (a ^ (M + N))) => law2_equal_any va vb _ Fr W h g)
  have HEt := Lib.hid (fun va vb W (h : Fra W va ((a * b) ^ M)) (g : Fra W vb ((a * b) ^ M)) => law2_equal_any va vb _ Ft W h g)
  have HK := Lib.hid (And.intro ha hb)
  clear Fp Fq Fr Fs Ft Fu fab hab ha hb hq hqb hM hN hM1 hN1
  have hB := Below.refl w.heap.size w
  obtain ⟨al, xia, hN⟩ := mk hB #[.bool bia, .slice aia kia cia, .bool dia, .slice eia lia mia] 26
  replace ia := ia.on al
  replace ib := ib.on al
  replace hB := hN
  clear al hN
  try simp only [World.size_alloc] at xia
  obtain ⟨al, xib, hN⟩ := mk hB #[.bool bib, .slice aib kib cib, .bool dib, .slice eib lib mib] 26
  replace xia := xia.on al
  replace ia := ia.on al
  replace ib := ib.on al
  replace hB := hN
  clear al hN
  try simp only [World.size_alloc] at xib
  go_enter Tryz.func13, Tryz.ntmps13
  go_wp2_with fail
  refine (law2_awake_any _).mono ?_
  rintro e w1 ⟨rfl, hb⟩
  replace xia := xia.on hb
  replace xib := xib.on hb
  replace ia := ia.on hb
  replace ib := ib.on hb
  have hz1 := hb.size
  try simp at hz1
  replace hB := hB.trans (hb.mono hB.size)
  clear hb
  have pia := xia.all4
  have pib := xib.all4
  have ltia := xia.lt
  have ltib := xib.lt
  go_wp2_with fail
  clear ltia
  clear ltib
  clear pia pib
  have hb := ((Below.refl w1.heap.size w1).alloc (Nat.le_refl _) (.cells #[.bool bia, .slice aia kia cia, .bool dia, .slice eia lia mia, .bool bib, .slice aib kib cib, .bool dib, .slice eib lib mib] 26))
  have xrow : Bk _ w1.heap.size #[.bool bia, .slice aia kia cia, .bool dia, .slice eia lia mia, .bool bib, .slice aib kib cib, .bool dib, .slice eib lib mib] 26 := (Bk.new w1 #[.bool bia, .slice aia kia cia, .bool dia, .slice eia lia mia, .bool bib, .slice aib kib cib, .bool dib, .slice eib lib mib] 26)
  replace xia := xia.on hb
  replace xib := xib.on hb
  replace ia := ia.on hb
  replace ib := ib.on hb
  replace hB := hB.trans (hb.mono hB.size)
  clear hb
  have rw0 := xrow.cell 0
  have rw1 := xrow.cell 1
  have rw2 := xrow.cell 2
  have rw3 := xrow.cell 3
  have rw4 := xrow.cell 4
  have rw5 := xrow.cell 5
  have rw6 := xrow.cell 6
  have rw7 := xrow.cell 7
  simp only [List.getElem?_toArray, List.getElem?_cons_zero, List.getElem?_cons_succ] at rw0 rw1 rw2 rw3 rw4 rw5 rw6 rw7
  refine (usable2_fra w1.heap.size a b bia aia kia cia dia eia lia mia bib aib kib cib dib eib lib mib _ rw0 rw1 rw2 rw3 rw4 rw5 rw6 rw7 ia ib (sa.mono (by decide) (by decide)) (sb.mono (by decide) (by decide))).mono ?_
  rintro e w2 ⟨rfl, hb⟩
  clear xrow rw0 rw1 rw2 rw3 rw4 rw5 rw6 rw7
  replace xia := xia.on hb
  replace xib := xib.on hb
  replace ia := ia.on hb
  replace ib := ib.on hb
  replace hB := hB.trans (hb.mono hB.size)
  clear hb
  have pia := xia.all4
  have pib := xib.all4
  have ltia := xia.lt
  have ltib := xib.lt
  go_wp2_with fail
  clear ltia
  clear ltib
  clear pia pib
  have hb := ((Below.refl w2.heap.size w2).alloc (Nat.le_refl _) (.cells #[.bool bia, .slice aia kia cia, .bool dia, .slice eia lia mia, .bool bib, .slice aib kib cib, .bool dib, .slice eib lib mib] 26))
  have xrow : Bk _ w2.heap.size #[.bool bia, .slice aia kia cia, .bool dia, .slice eia lia mia, .bool bib, .slice aib kib cib, .bool dib, .slice eib lib mib] 26 := (Bk.new w2 #[.bool bia, .slice aia kia cia, .bool dia, .slice eia lia mia, .bool bib, .slice aib kib cib, .bool dib, .slice eib lib mib] 26)
  replace xia := xia.on hb
  replace xib := xib.on hb
  replace ia := ia.on hb
  replace ib := ib.on hb
  replace hB := hB.trans (hb.mono hB.size)
  clear hb
  have rw0 := xrow.cell 0
  have rw1 := xrow.cell 1
  have rw2 := xrow.cell 2
  have rw3 := xrow.cell 3
  have rw4 := xrow.cell 4
  have rw5 := xrow.cell 5
  have rw6 := xrow.cell 6
  have rw7 := xrow.cell 7
  simp only [List.getElem?_toArray, List.getElem?_cons_zero, List.getElem?_cons_succ] at rw0 rw1 rw2 rw3 rw4 rw5 rw6 rw7
  refine (short2_fra 8 w2.heap.size a b bia aia kia cia dia eia lia mia bib aib kib cib dib eib lib mib _ rw0 rw1 rw2 rw3 rw4 rw5 rw6 rw7 ia ib sa sb).mono ?_
  rintro e w3 ⟨rfl, hb⟩
  clear xrow rw0 rw1 rw2 rw3 rw4 rw5 rw6 rw7
  replace xia := xia.on hb
  replace xib := xib.on hb
  replace ia := ia.on hb
  replace ib := ib.on hb
  replace hB := hB.trans (hb.mono hB.size)
  clear hb
  have pia := xia.all4
  have pib := xib.all4
  have ltia := xia.lt
  have ltib := xib.lt
  go_wp2_with fail
  clear ltia
  clear ltib
  clear pia pib
  refine (HP0.out _ _ ia).mono ?_
  rintro e w4 ⟨⟨v, rfl, fc⟩, hb⟩
  obtain ⟨bx1, ax1, kx1, cx1, dx1, ex1, lx1, mx1, rfl⟩ := fc.opened
  replace xia := xia.on hb
  replace xib := xib.on hb
  replace ia := ia.on hb
  replace ib := ib.on hb
  have hz4 := hb.size
  try simp at hz4
  replace hB := hB.trans (hb.mono hB.size)
  clear hb
  have pia := xia.all4
  have pib := xib.all4
  have ltia := xia.lt
  have ltib := xib.lt
  go_wp2_with fail
  clear ltia
  clear ltib
  clear pia pib
  have hb := ((Below.refl w4.heap.size w4).alloc (Nat.le_refl _) (.cells #[.bool bx1, .slice ax1 kx1 cx1, .bool dx1, .slice ex1 lx1 mx1] 26))
  have xc : Bk _ w4.heap.size #[.bool bx1, .slice ax1 kx1 cx1, .bool dx1, .slice ex1 lx1 mx1] 26 := (Bk.new w4 #[.bool bx1, .slice ax1 kx1 cx1, .bool dx1, .slice ex1 lx1 mx1] 26)
  replace xia := xia.on hb
  replace xib := xib.on hb
  replace ia := ia.on hb
  replace ib := ib.on hb
  replace fc := fc.on hb
  replace hB := hB.trans (hb.mono hB.size)
  clear hb
  obtain ⟨Wc, hWc⟩ : ∃ W, W = (w4.alloc (.cells #[.bool bx1, .slice ax1 kx1 cx1, .bool dx1, .slice ex1 lx1 mx1] 26)) := ⟨_, rfl⟩
  rw [← hWc] at hB xia xib xc ia ib fc ⊢
  clear hWc
  refine (HP1.out _ _ ia).mono ?_
  rintro e w5 ⟨⟨v, rfl, fd⟩, hb⟩
  obtain ⟨bx2, ax2, kx2, cx2, dx2, ex2, lx2, mx2, rfl⟩ := fd.opened
  replace xia := xia.on hb
  replace xib := xib.on hb
  replace xc := xc.on hb
  replace ia := ia.on hb
  replace ib := ib.on hb
  replace fc := fc.on hb
  have hz5 := hb.size
  try simp at hz5
  replace hB := hB.trans (hb.mono hB.size)
  clear hb
  have pia := xia.all4
  have pib := xib.all4
  have pc := xc.all4
  have ltia := xia.lt
  have ltib := xib.lt
  have ltc := xc.lt
  go_wp2_with fail
  clear ltia
  clear ltib
  clear ltc
  clear pia pib pc
  have hb := ((Below.refl w5.heap.size w5).alloc (Nat.le_refl _) (.cells #[.bool bx2, .slice ax2 kx2 cx2, .bool dx2, .slice ex2 lx2 mx2] 26))
  have xd : Bk _ w5.heap.size #[.bool bx2, .slice ax2 kx2 cx2, .bool dx2, .slice ex2 lx2 mx2] 26 := (Bk.new w5 #[.bool bx2, .slice ax2 kx2 cx2, .bool dx2, .slice ex2 lx2 mx2] 26)
  replace xia := xia.on hb
  replace xib := xib.on hb
  replace xc := xc.on hb
  replace ia := ia.on hb
  replace ib := ib.on hb
  replace fc := fc.on hb
  replace fd := fd.on hb
  replace hB := hB.trans (hb.mono hB.size)
  clear hb
  obtain ⟨Wd, hWd⟩ : ∃ W, W = (w5.alloc (.cells #[.bool bx2, .slice ax2 kx2 cx2, .bool dx2, .slice ex2 lx2 mx2] 26)) := ⟨_, rfl⟩
  rw [← hWd] at hB xia xib xc xd ia ib fc fd ⊢
  clear hWd
  have qc := xc.lt
  have qd := xd.lt
  have qia := xia.lt
  obtain ⟨gc0, gc1, gc2, gc3⟩ := xc.cells4
  obtain ⟨gd0, gd1, gd2, gd3⟩ := xd.cells4
  obtain ⟨gia0, gia1, gia2, gia3⟩ := xia.cells4
  refine wp_region_noPanic ?_
  refine wp_region_held_drew (S := (fun w' => (w'.cell? ⟨w4.heap.size, 0, none⟩ = some (.bool bx1) ∧ w'.cell? ⟨w4.heap.size, 1, none⟩ = some (.slice ax1 kx1 cx1) ∧ w'.cell? ⟨w4.heap.size, 2, none⟩ = some (.bool dx1) ∧ w'.cell? ⟨w4.heap.size, 3, none⟩ = some (.slice ex1 lx1 mx1)) ∧ (w'.cell? ⟨w5.heap.size, 0, none⟩ = some (.bool bx2) ∧ w'.cell? ⟨w5.heap.size, 1, none⟩ = some (.slice ax2 kx2 cx2) ∧ w'.cell? ⟨w5.heap.size, 2, none⟩ = some (.bool dx2) ∧ w'.cell? ⟨w5.heap.size, 3, none⟩ = some (.slice ex2 lx2 mx2)) ∧ w'.cell? ⟨w.heap.size, 0, none⟩ = some (.bool bia) ∧ w'.cell? ⟨w.heap.size, 1, none⟩ = some (.slice aia kia cia) ∧ w'.cell? ⟨w.heap.size, 2, none⟩ = some (.bool dia) ∧ w'.cell? ⟨w.heap.size, 3, none⟩ = some (.slice eia lia mia))) (by kernel_rfl) ⟨⟨gc0, gc1, gc2, gc3⟩, ⟨gd0, gd1, gd2, gd3⟩, ⟨gia0, gia1, gia2, gia3⟩⟩ (fun hR0 => ?_)
  change wpAnyH _ _ _ _ _ 18 #[false, false, false, false, false, false, false, false, false, false, false, false, false, false, false, false, false, false] _ _
  clear gc0 gc1 gc2 gc3 gd0 gd1 gd2 gd3 gia0 gia1 gia2 gia3
  refine tk (i := 0) (v := ?_) rfl (by kernel_rfl) (fun _ _ _ h => h) (by rfl) ?_ (by assumption) ?_
  rotate_left 1
  · (intro w hSw; (try dsimp only at hSw); go_simp <;> (with_reducible rfl))
  (try simp only [Act.put, List.setIfInBounds_toArray, List.set])
  refine tk (i := 1) (v := ?_) rfl (by kernel_rfl) (fun _ _ _ h => h) (by rfl) ?_ (by assumption) ?_
  rotate_left 1
  · (intro w hSw; (try dsimp only at hSw); go_simp <;> (with_reducible rfl))
  (try simp only [Act.put, List.setIfInBounds_toArray, List.set])
  refine tk (i := 2) (v := ?_) rfl (by kernel_rfl) (fun _ _ _ h => h) (by rfl) ?_ (by assumption) ?_
  rotate_left 1
  · (intro w hSw; (try dsimp only at hSw); go_simp <;> (with_reducible rfl))
  (try simp only [Act.put, List.setIfInBounds_toArray, List.set])
  refine tk (i := 3) (v := ?_) rfl (by kernel_rfl) (fun _ _ _ h => h) (by rfl) ?_ (by assumption) ?_
  rotate_left 1
  · (intro w hSw; (try dsimp only at hSw); go_simp <;> (with_reducible rfl))
  (try simp only [Act.put, List.setIfInBounds_toArray, List.set])
  refine tk (i := 4) (v := ?_) rfl (by kernel_rfl) (fun _ _ _ h => h) (by rfl) ?_ (by assumption) ?_
  rotate_left 1
  · (intro w hSw; (try dsimp only at hSw); go_simp <;> (with_reducible rfl))
  (try simp only [Act.put, List.setIfInBounds_toArray, List.set])
  refine tk (i := 5) (v := ?_) rfl (by kernel_rfl) (fun _ _ _ h => h) (by rfl) ?_ (by assumption) ?_
  rotate_left 1
  · (intro w hSw; (try dsimp only at hSw); go_simp <;> (with_reducible rfl))
  (try simp only [Act.put, List.setIfInBounds_toArray, List.set])
  refine tk (i := 6) (v := ?_) rfl (by kernel_rfl) (fun _ _ _ h => h) (by rfl) ?_ (by assumption) ?_
  rotate_left 1
  · (intro w hSw; (try dsimp only at hSw); go_simp <;> (with_reducible rfl))
  (try simp only [Act.put, List.setIfInBounds_toArray, List.set])
  refine tk (i := 7) (v := ?_) rfl (by kernel_rfl) (fun _ _ _ h => h) (by rfl) ?_ (by assumption) ?_
  rotate_left 1
  · (intro w hSw; (try dsimp only at hSw); go_simp <;> (with_reducible rfl))
  (try simp only [Act.put, List.setIfInBounds_toArray, List.set])
  refine rd1 (i := 8) (by kernel_rfl) rfl (fun K hK => ?_)
  go_simp
  go_at_call 23; have hBd := hB.drew; refine (H1.out _).mono ?_; rintro e w6 ⟨⟨v1, rfl, g1⟩, hb⟩; replace hb := (Below.refl Wd.heap.size Wd).drew.trans hb; replace xia := xia.on hb; replace xib := xib.on hb; replace xc := xc.on hb; replace xd := xd.on hb; replace ia := ia.on hb; replace ib := ib.on hb; replace fc := fc.on hb; replace fd := fd.on hb; replace hB := hB.trans (hb.mono hB.size); have hz6 := hb.size
  (try go_wp2_with fail)
  refine hK.out _ _ (⟨keep4 hb qc hR0.1, keep4 hb qd hR0.2.1, keep4 hb qia hR0.2.2⟩) (fun hR1 => ?_)
  clear hK K hR0
  (first | ((fail_if_success (unfold Act.put)); (try simp only [List.setIfInBounds_toArray, List.set])) | (try simp only [Act.put, List.setIfInBounds_toArray, List.set]))
  replace qc := Nat.lt_of_lt_of_le qc hz6
  replace qd := Nat.lt_of_lt_of_le qd hz6
  replace qia := Nat.lt_of_lt_of_le qia hz6
  clear hb hBd
  refine rd1 (i := 9) (by kernel_rfl) rfl (fun K hK => ?_)
  go_simp
  go_at_call 43; have hBd := hB; refine (HE1.out _ _ _ fc g1).mono ?_; rintro e w7 ⟨rfl, hb⟩; replace xia := xia.on hb; replace xib := xib.on hb; replace xc := xc.on hb; replace xd := xd.on hb; replace ia := ia.on hb; replace ib := ib.on hb; replace fc := fc.on hb; replace fd := fd.on hb; replace g1 := g1.on hb; replace hB := hB.trans (hb.mono hB.size); have hz7 := hb.size
  (try go_wp2_with fail)
  refine hK.out _ _ (⟨keep4 hb qc hR1.1, keep4 hb qd hR1.2.1, keep4 hb qia hR1.2.2⟩) (fun hR2 => ?_)
  clear hK K hR1
  (first | ((fail_if_success (unfold Act.put)); (try simp only [List.setIfInBounds_toArray, List.set])) | (try simp only [Act.put, List.setIfInBounds_toArray, List.set]))
  replace qc := Nat.lt_of_lt_of_le qc hz7
  replace qd := Nat.lt_of_lt_of_le qd hz7
  replace qia := Nat.lt_of_lt_of_le qia hz7
  clear hb hBd
  refine tk (i := 10) (v := ?_) rfl (by kernel_rfl) (fun _ _ _ h => h) (by rfl) ?_ (by assumption) ?_
  rotate_left 1
  · (intro w hSw; (try dsimp only at hSw); go_simp <;> (with_reducible rfl))
  (try simp only [Act.put, List.setIfInBounds_toArray, List.set])
  refine tk (i := 11) (v := ?_) rfl (by kernel_rfl) (fun _ _ _ h => h) (by rfl) ?_ (by assumption) ?_
  rotate_left 1
  · (intro w hSw; (try dsimp only at hSw); go_simp <;> (with_reducible rfl))
  (try simp only [Act.put, List.setIfInBounds_toArray, List.set])
  refine tk (i := 12) (v := ?_) rfl (by kernel_rfl) (fun _ _ _ h => h) (by rfl) ?_ (by assumption) ?_
  rotate_left 1
  · (intro w hSw; (try dsimp only at hSw); go_simp <;> (with_reducible rfl))
  (try simp only [Act.put, List.setIfInBounds_toArray, List.set])
  refine tk (i := 13) (v := ?_) rfl (by kernel_rfl) (fun _ _ _ h => h) (by rfl) ?_ (by assumption) ?_
  rotate_left 1
  · (intro w hSw; (try dsimp only at hSw); go_simp <;> (with_reducible rfl))
  (try simp only [Act.put, List.setIfInBounds_toArray, List.set])
  refine tk (i := 14) (v := ?_) rfl (by kernel_rfl) (fun _ _ _ h => h) (by rfl) ?_ (by assumption) ?_
  rotate_left 1
  · (intro w hSw; (try dsimp only at hSw); go_simp <;> (with_reducible rfl))
  (try simp only [Act.put, List.setIfInBounds_toArray, List.set])
  refine rd1 (i := 15) (by kernel_rfl) rfl (fun K hK => ?_)
  go_simp
  go_at_call 43; have hBd := hB; refine (HEa.out _ _ _ fd ia).mono ?_; rintro e w8 ⟨rfl, hb⟩; replace xia := xia.on hb; replace xib := xib.on hb; replace xc := xc.on hb; replace xd := xd.on hb; replace ia := ia.on hb; replace ib := ib.on hb; replace fc := fc.on hb; replace fd := fd.on hb; replace g1 := g1.on hb; replace hB := hB.trans (hb.mono hB.size); have hz8 := hb.size
  (try go_wp2_with fail)
  refine hK.out _ _ (⟨keep4 hb qc hR2.1, keep4 hb qd hR2.2.1, keep4 hb qia hR2.2.2⟩) (fun hR3 => ?_)
  clear hK K hR2
  (first | ((fail_if_success (unfold Act.put)); (try simp only [List.setIfInBounds_toArray, List.set])) | (try simp only [Act.put, List.setIfInBounds_toArray, List.set]))
  replace qc := Nat.lt_of_lt_of_le qc hz8
  replace qd := Nat.lt_of_lt_of_le qd hz8
  replace qia := Nat.lt_of_lt_of_le qia hz8
  clear hb hBd
  refine tk (i := 16) (v := ?_) rfl (by kernel_rfl) (fun _ _ _ h => h) (by rfl) ?_ (by assumption) ?_
  rotate_left 1
  · (intro w hSw; (try dsimp only at hSw); go_simp <;> (with_reducible rfl))
  (try simp only [Act.put, List.setIfInBounds_toArray, List.set])
  refine tk (i := 17) (v := ?_) rfl (by kernel_rfl) (fun _ _ _ h => h) (by rfl) ?_ (by assumption) ?_
  rotate_left 1
  · (intro w hSw; (try dsimp only at hSw); go_simp <;> (with_reducible rfl))
  (try simp only [Act.put, List.setIfInBounds_toArray, List.set])
  refine wpAnyH_done (by kernel_rfl) ?_ _
  refine NoPanic.normal ?_
  clear hR3
  clear qc qd qia
  clear g1
  clear fc
  clear fd
  clear xc
  clear xd
  have hk := (num_len (fra_nums ia).2.2.1).1
  have hkia : ((kia : Int) == 0) = false := by
    rw [beq_eq_false_iff_ne]; intro e; refine HK.out.1 ((Fq.num_zero a).1 ?_)
    have : dig a.num.natAbs = [] := List.eq_nil_of_length_eq_zero (by omega)
    have := (dig_nil_iff _).1 this; omega
  clear hk
  have hk := (num_len (fra_nums ib).2.2.1).1
  have hkib : ((kib : Int) == 0) = false := by
    rw [beq_eq_false_iff_ne]; intro e; refine HK.out.2 ((Fq.num_zero b).1 ?_)
    have : dig b.num.natAbs = [] := List.eq_nil_of_length_eq_zero (by omega)
    have := (dig_nil_iff _).1 this; omega
  clear hk
  have pia := xia.all4
  have pib := xib.all4
  have ltia := xia.lt
  have ltib := xib.lt
  go_wp2_with fail
  clear ltia
  clear ltib
  clear pia pib
  clear hkia hkib
  refine (Hp.out _ _ ia).mono ?_
  rintro e w9 ⟨⟨v, rfl, fp⟩, hb⟩
  obtain ⟨bx3, ax3, kx3, cx3, dx3, ex3, lx3, mx3, rfl⟩ := fp.opened
  replace xia := xia.on hb
  replace xib := xib.on hb
  replace ia := ia.on hb
  replace ib := ib.on hb
  have hz9 := hb.size
  try simp at hz9
  replace hB := hB.trans (hb.mono hB.size)
  clear hb
  have pia := xia.all4
  have pib := xib.all4
  have ltia := xia.lt
  have ltib := xib.lt
  go_wp2_with fail
  clear ltia
  clear ltib
  clear pia pib
  have hb := ((Below.refl w9.heap.size w9).alloc (Nat.le_refl _) (.cells #[.bool bx3, .slice ax3 kx3 cx3, .bool dx3, .slice ex3 lx3 mx3] 26))
  have xp : Bk _ w9.heap.size #[.bool bx3, .slice ax3 kx3 cx3, .bool dx3, .slice ex3 lx3 mx3] 26 := (Bk.new w9 #[.bool bx3, .slice ax3 kx3 cx3, .bool dx3, .slice ex3 lx3 mx3] 26)
  replace xia := xia.on hb
  replace xib := xib.on hb
  replace ia := ia.on hb
  replace ib := ib.on hb
  replace fp := fp.on hb
  replace hB := hB.trans (hb.mono hB.size)
  clear hb
  obtain ⟨Wp, hWp⟩ : ∃ W, W = (w9.alloc (.cells #[.bool bx3, .slice ax3 kx3 cx3, .bool dx3, .slice ex3 lx3 mx3] 26)) := ⟨_, rfl⟩
  rw [← hWp] at hB xia xib xp ia ib fp ⊢
  clear hWp
  refine (Hq.out _ _ ia).mono ?_
  rintro e w10 ⟨⟨v, rfl, fq⟩, hb⟩
  obtain ⟨bx4, ax4, kx4, cx4, dx4, ex4, lx4, mx4, rfl⟩ := fq.opened
  replace xia := xia.on hb
  replace xib := xib.on hb
  replace xp := xp.on hb
  replace ia := ia.on hb
  replace ib := ib.on hb
  replace fp := fp.on hb
  have hz10 := hb.size
  try simp at hz10
  replace hB := hB.trans (hb.mono hB.size)
  clear hb
  have pia := xia.all4
  have pib := xib.all4
  have pp := xp.all4
  have ltia := xia.lt
  have ltib := xib.lt
  have ltp := xp.lt
  go_wp2_with fail
  clear ltia
  clear ltib
  clear ltp
  clear pia pib pp
  have hb := ((Below.refl w10.heap.size w10).alloc (Nat.le_refl _) (.cells #[.bool bx4, .slice ax4 kx4 cx4, .bool dx4, .slice ex4 lx4 mx4] 26))
  have xq : Bk _ w10.heap.size #[.bool bx4, .slice ax4 kx4 cx4, .bool dx4, .slice ex4 lx4 mx4] 26 := (Bk.new w10 #[.bool bx4, .slice ax4 kx4 cx4, .bool dx4, .slice ex4 lx4 mx4] 26)
  replace xia := xia.on hb
  replace xib := xib.on hb
  replace xp := xp.on hb
  replace ia := ia.on hb
  replace ib := ib.on hb
  replace fp := fp.on hb
  replace fq := fq.on hb
  replace hB := hB.trans (hb.mono hB.size)
  clear hb
  obtain ⟨Wq, hWq⟩ : ∃ W, W = (w10.alloc (.cells #[.bool bx4, .slice ax4 kx4 cx4, .bool dx4, .slice ex4 lx4 mx4] 26)) := ⟨_, rfl⟩
  rw [← hWq] at hB xia xib xp xq ia ib fp fq ⊢
  clear hWq
  refine (Hr.out _ _ ia).mono ?_
  rintro e w11 ⟨⟨v, rfl, fr⟩, hb⟩
  obtain ⟨bx5, ax5, kx5, cx5, dx5, ex5, lx5, mx5, rfl⟩ := fr.opened
  replace xia := xia.on hb
  replace xib := xib.on hb
  replace xp := xp.on hb
  replace xq := xq.on hb
  replace ia := ia.on hb
  replace ib := ib.on hb
  replace fp := fp.on hb
  replace fq := fq.on hb
  have hz11 := hb.size
  try simp at hz11
  replace hB := hB.trans (hb.mono hB.size)
  clear hb
  have pia := xia.all4
  have pib := xib.all4
  have pp := xp.all4
  have pq := xq.all4
  have ltia := xia.lt
  have ltib := xib.lt
  have ltp := xp.lt
  have ltq := xq.lt
  go_wp2_with fail
  clear ltia
  clear ltib
  clear ltp
  clear ltq
  clear pia pib pp pq
  have hb := ((Below.refl w11.heap.size w11).alloc (Nat.le_refl _) (.cells #[.bool bx5, .slice ax5 kx5 cx5, .bool dx5, .slice ex5 lx5 mx5] 26))
  have xr : Bk _ w11.heap.size #[.bool bx5, .slice ax5 kx5 cx5, .bool dx5, .slice ex5 lx5 mx5] 26 := (Bk.new w11 #[.bool bx5, .slice ax5 kx5 cx5, .bool dx5, .slice ex5 lx5 mx5] 26)
  replace xia := xia.on hb
  replace xib := xib.on hb
  replace xp := xp.on hb
  replace xq := xq.on hb
  replace ia := ia.on hb
  replace ib := ib.on hb
  replace fp := fp.on hb
  replace fq := fq.on hb
  replace fr := fr.on hb
  replace hB := hB.trans (hb.mono hB.size)
  clear hb
  obtain ⟨Wr, hWr⟩ : ∃ W, W = (w11.alloc (.cells #[.bool bx5, .slice ax5 kx5 cx5, .bool dx5, .slice ex5 lx5 mx5] 26)) := ⟨_, rfl⟩
  rw [← hWr] at hB xia xib xp xq xr ia ib fp fq fr ⊢
  clear hWr
  refine (Hs.out _ _ ib).mono ?_
  rintro e w12 ⟨⟨v, rfl, fs⟩, hb⟩
  obtain ⟨bx6, ax6, kx6, cx6, dx6, ex6, lx6, mx6, rfl⟩ := fs.opened
  replace xia := xia.on hb
  replace xib := xib.on hb
  replace xp := xp.on hb
  replace xq := xq.on hb
  replace xr := xr.on hb
  replace ia := ia.on hb
  replace ib := ib.on hb
  replace fp := fp.on hb
  replace fq := fq.on hb
  replace fr := fr.on hb
  have hz12 := hb.size
  try simp at hz12
  replace hB := hB.trans (hb.mono hB.size)
  clear hb
  have pia := xia.all4
  have pib := xib.all4
  have pp := xp.all4
  have pq := xq.all4
  have pr := xr.all4
  have ltia := xia.lt
  have ltib := xib.lt
  have ltp := xp.lt
  have ltq := xq.lt
  have ltr := xr.lt
  go_wp2_with fail
  clear ltia
  clear ltib
  clear ltp
  clear ltq
  clear ltr
  clear pia pib pp pq pr
  have hb := ((Below.refl w12.heap.size w12).alloc (Nat.le_refl _) (.cells #[.bool bx6, .slice ax6 kx6 cx6, .bool dx6, .slice ex6 lx6 mx6] 26))
  have xs : Bk _ w12.heap.size #[.bool bx6, .slice ax6 kx6 cx6, .bool dx6, .slice ex6 lx6 mx6] 26 := (Bk.new w12 #[.bool bx6, .slice ax6 kx6 cx6, .bool dx6, .slice ex6 lx6 mx6] 26)
  replace xia := xia.on hb
  replace xib := xib.on hb
  replace xp := xp.on hb
  replace xq := xq.on hb
  replace xr := xr.on hb
  replace ia := ia.on hb
  replace ib := ib.on hb
  replace fp := fp.on hb
  replace fq := fq.on hb
  replace fr := fr.on hb
  replace fs := fs.on hb
  replace hB := hB.trans (hb.mono hB.size)
  clear hb
  obtain ⟨Ws, hWs⟩ : ∃ W, W = (w12.alloc (.cells #[.bool bx6, .slice ax6 kx6 cx6, .bool dx6, .slice ex6 lx6 mx6] 26)) := ⟨_, rfl⟩
  rw [← hWs] at hB xia xib xp xq xr xs ia ib fp fq fr fs ⊢
  clear hWs
  refine (HX.out _ _ _ ia ib).mono ?_
  rintro e w13 ⟨⟨v, rfl, fx⟩, hb⟩
  replace xia := xia.on hb
  replace xib := xib.on hb
  replace xp := xp.on hb
  replace xq := xq.on hb
  replace xr := xr.on hb
  replace xs := xs.on hb
  replace ia := ia.on hb
  replace ib := ib.on hb
  replace fp := fp.on hb
  replace fq := fq.on hb
  replace fr := fr.on hb
  replace fs := fs.on hb
  have hz13 := hb.size
  try simp at hz13
  replace hB := hB.trans (hb.mono hB.size)
  clear hb
  go_wp2_with fail
  refine (Ht.out _ _ fx).mono ?_
  rintro e w14 ⟨⟨v, rfl, ft⟩, hb⟩
  obtain ⟨bx7, ax7, kx7, cx7, dx7, ex7, lx7, mx7, rfl⟩ := ft.opened
  replace xia := xia.on hb
  replace xib := xib.on hb
  replace xp := xp.on hb
  replace xq := xq.on hb
  replace xr := xr.on hb
  replace xs := xs.on hb
  replace ia := ia.on hb
  replace ib := ib.on hb
  replace fp := fp.on hb
  replace fq := fq.on hb
  replace fr := fr.on hb
  replace fs := fs.on hb
  replace fx := fx.on hb
  have hz14 := hb.size
  try simp at hz14
  replace hB := hB.trans (hb.mono hB.size)
  clear hb
  have pia := xia.all4
  have pib := xib.all4
  have pp := xp.all4
  have pq := xq.all4
  have pr := xr.all4
  have ps := xs.all4
  have ltia := xia.lt
  have ltib := xib.lt
  have ltp := xp.lt
  have ltq := xq.lt
  have ltr := xr.lt
  have lts := xs.lt
  go_wp2_with fail
  clear ltia
  clear ltib
  clear ltp
  clear ltq
  clear ltr
  clear lts
  clear pia pib pp pq pr ps
  have hb := ((Below.refl w14.heap.size w14).alloc (Nat.le_refl _) (.cells #[.bool bx7, .slice ax7 kx7 cx7, .bool dx7, .slice ex7 lx7 mx7] 26))
  have xt : Bk _ w14.heap.size #[.bool bx7, .slice ax7 kx7 cx7, .bool dx7, .slice ex7 lx7 mx7] 26 := (Bk.new w14 #[.bool bx7, .slice ax7 kx7 cx7, .bool dx7, .slice ex7 lx7 mx7] 26)
  replace xia := xia.on hb
  replace xib := xib.on hb
  replace xp := xp.on hb
  replace xq := xq.on hb
  replace xr := xr.on hb
  replace xs := xs.on hb
  replace ia := ia.on hb
  replace ib := ib.on hb
  replace fp := fp.on hb
  replace fq := fq.on hb
  replace fr := fr.on hb
  replace fs := fs.on hb
  replace fx := fx.on hb
  replace ft := ft.on hb
  replace hB := hB.trans (hb.mono hB.size)
  clear hb
  obtain ⟨Wt, hWt⟩ : ∃ W, W = (w14.alloc (.cells #[.bool bx7, .slice ax7 kx7 cx7, .bool dx7, .slice ex7 lx7 mx7] 26)) := ⟨_, rfl⟩
  rw [← hWt] at hB xia xib xp xq xr xs xt ia ib fp fq fr fs fx ft ⊢
  clear hWt
  clear fx
  refine (Hu.out _ _ ia).mono ?_
  rintro e w15 ⟨⟨v, rfl, fu⟩, hb⟩
  obtain ⟨bx8, ax8, kx8, cx8, dx8, ex8, lx8, mx8, rfl⟩ := fu.opened
  replace xia := xia.on hb
  replace xib := xib.on hb
  replace xp := xp.on hb
  replace xq := xq.on hb
  replace xr := xr.on hb
  replace xs := xs.on hb
  replace xt := xt.on hb
  replace ia := ia.on hb
  replace ib := ib.on hb
  replace fp := fp.on hb
  replace fq := fq.on hb
  replace fr := fr.on hb
  replace fs := fs.on hb
  replace ft := ft.on hb
  have hz15 := hb.size
  try simp at hz15
  replace hB := hB.trans (hb.mono hB.size)
  clear hb
  have pia := xia.all4
  have pib := xib.all4
  have pp := xp.all4
  have pq := xq.all4
  have pr := xr.all4
  have ps := xs.all4
  have pt := xt.all4
  have ltia := xia.lt
  have ltib := xib.lt
  have ltp := xp.lt
  have ltq := xq.lt
  have ltr := xr.lt
  have lts := xs.lt
  have ltt := xt.lt
  go_wp2_with fail
  clear ltia
  clear ltib
  clear ltp
  clear ltq
  clear ltr
  clear lts
  clear ltt
  clear pia pib pp pq pr ps pt
  have hb := ((Below.refl w15.heap.size w15).alloc (Nat.le_refl _) (.cells #[.bool bx8, .slice ax8 kx8 cx8, .bool dx8, .slice ex8 lx8 mx8] 26))
  have xu : Bk _ w15.heap.size #[.bool bx8, .slice ax8 kx8 cx8, .bool dx8, .slice ex8 lx8 mx8] 26 := (Bk.new w15 #[.bool bx8, .slice ax8 kx8 cx8, .bool dx8, .slice ex8 lx8 mx8] 26)
  replace xia := xia.on hb
  replace xib := xib.on hb
  replace xp := xp.on hb
  replace xq := xq.on hb
  replace xr := xr.on hb
  replace xs := xs.on hb
  replace xt := xt.on hb
  replace ia := ia.on hb
  replace ib := ib.on hb
  replace fp := fp.on hb
  replace fq := fq.on hb
  replace fr := fr.on hb
  replace fs := fs.on hb
  replace ft := ft.on hb
  replace fu := fu.on hb
  replace hB := hB.trans (hb.mono hB.size)
  clear hb
  obtain ⟨Wu, hWu⟩ : ∃ W, W = (w15.alloc (.cells #[.bool bx8, .slice ax8 kx8 cx8, .bool dx8, .slice ex8 lx8 mx8] 26)) := ⟨_, rfl⟩
  rw [← hWu] at hB xia xib xp xq xr xs xt xu ia ib fp fq fr fs ft fu ⊢
  clear hWu
  have qp := xp.lt
  have qq := xq.lt
  have qr := xr.lt
  have qs := xs.lt
  have qt := xt.lt
  have qu := xu.lt
  obtain ⟨gp0, gp1, gp2, gp3⟩ := xp.cells4
  obtain ⟨gq0, gq1, gq2, gq3⟩ := xq.cells4
  obtain ⟨gr0, gr1, gr2, gr3⟩ := xr.cells4
  obtain ⟨gs0, gs1, gs2, gs3⟩ := xs.cells4
  obtain ⟨gt0, gt1, gt2, gt3⟩ := xt.cells4
  obtain ⟨gu0, gu1, gu2, gu3⟩ := xu.cells4
  refine wp_region_noPanic ?_
  refine wp_region_held_drew (S := (fun w' => (w'.cell? ⟨w9.heap.size, 0, none⟩ = some (.bool bx3) ∧ w'.cell? ⟨w9.heap.size, 1, none⟩ = some (.slice ax3 kx3 cx3) ∧ w'.cell? ⟨w9.heap.size, 2, none⟩ = some (.bool dx3) ∧ w'.cell? ⟨w9.heap.size, 3, none⟩ = some (.slice ex3 lx3 mx3)) ∧ (w'.cell? ⟨w10.heap.size, 0, none⟩ = some (.bool bx4) ∧ w'.cell? ⟨w10.heap.size, 1, none⟩ = some (.slice ax4 kx4 cx4) ∧ w'.cell? ⟨w10.heap.size, 2, none⟩ = some (.bool dx4) ∧ w'.cell? ⟨w10.heap.size, 3, none⟩ = some (.slice ex4 lx4 mx4)) ∧ (w'.cell? ⟨w11.heap.size, 0, none⟩ = some (.bool bx5) ∧ w'.cell? ⟨w11.heap.size, 1, none⟩ = some (.slice ax5 kx5 cx5) ∧ w'.cell? ⟨w11.heap.size, 2, none⟩ = some (.bool dx5) ∧ w'.cell? ⟨w11.heap.size, 3, none⟩ = some (.slice ex5 lx5 mx5)) ∧ (w'.cell? ⟨w12.heap.size, 0, none⟩ = some (.bool bx6) ∧ w'.cell? ⟨w12.heap.size, 1, none⟩ = some (.slice ax6 kx6 cx6) ∧ w'.cell? ⟨w12.heap.size, 2, none⟩ = some (.bool dx6) ∧ w'.cell? ⟨w12.heap.size, 3, none⟩ = some (.slice ex6 lx6 mx6)) ∧ (w'.cell? ⟨w14.heap.size, 0, none⟩ = some (.bool bx7) ∧ w'.cell? ⟨w14.heap.size, 1, none⟩ = some (.slice ax7 kx7 cx7) ∧ w'.cell? ⟨w14.heap.size, 2, none⟩ = some (.bool dx7) ∧ w'.cell? ⟨w14.heap.size, 3, none⟩ = some (.slice ex7 lx7 mx7)) ∧ w'.cell? ⟨w15.heap.size, 0, none⟩ = some (.bool bx8) ∧ w'.cell? ⟨w15.heap.size, 1, none⟩ = some (.slice ax8 kx8 cx8) ∧ w'.cell? ⟨w15.heap.size, 2, none⟩ = some (.bool dx8) ∧ w'.cell? ⟨w15.heap.size, 3, none⟩ = some (.slice ex8 lx8 mx8))) (by kernel_rfl) ⟨⟨gp0, gp1, gp2, gp3⟩, ⟨gq0, gq1, gq2, gq3⟩, ⟨gr0, gr1, gr2, gr3⟩, ⟨gs0, gs1, gs2, gs3⟩, ⟨gt0, gt1, gt2, gt3⟩, ⟨gu0, gu1, gu2, gu3⟩⟩ (fun hR0 => ?_)
  change wpAnyH _ _ _ _ _ 20 #[false, false, false, false, false, false, false, false, false, false, false, false, false, false, false, false, false, false, false, false] _ _
  clear gp0 gp1 gp2 gp3 gq0 gq1 gq2 gq3 gr0 gr1 gr2 gr3 gs0 gs1 gs2 gs3 gt0 gt1 gt2 gt3 gu0 gu1 gu2 gu3
  refine tk (i := 0) (v := ?_) rfl (by kernel_rfl) (fun _ _ _ h => h) (by rfl) ?_ (by assumption) ?_
  rotate_left 1
  · (intro w hSw; (try dsimp only at hSw); go_simp <;> (with_reducible rfl))
  (try simp only [Act.put, List.setIfInBounds_toArray, List.set])
  refine tk (i := 1) (v := ?_) rfl (by kernel_rfl) (fun _ _ _ h => h) (by rfl) ?_ (by assumption) ?_
  rotate_left 1
  · (intro w hSw; (try dsimp only at hSw); go_simp <;> (with_reducible rfl))
  (try simp only [Act.put, List.setIfInBounds_toArray, List.set])
  refine tk (i := 3) (v := ?_) rfl (by kernel_rfl) (fun _ _ _ h => h) (by rfl) ?_ (by assumption) ?_
  rotate_left 1
  · (intro w hSw; (try dsimp only at hSw); go_simp <;> (with_reducible rfl))
  (try simp only [Act.put, List.setIfInBounds_toArray, List.set])
  refine rd1 (i := 2) (by kernel_rfl) rfl (fun K hK => ?_)
  go_simp
  go_at_call 45; have hBd := hB.drew; refine (HY1.out _ _ _ (by exact fp) (by exact fq)).mono ?_; rintro e w16 ⟨⟨v1, rfl, g1⟩, hb⟩; replace hb := (Below.refl Wu.heap.size Wu).drew.trans hb; replace xia := xia.on hb; replace xib := xib.on hb; replace xp := xp.on hb; replace xq := xq.on hb; replace xr := xr.on hb; replace xs := xs.on hb; replace xt := xt.on hb; replace xu := xu.on hb; replace ia := ia.on hb; replace ib := ib.on hb; replace fp := fp.on hb; replace fq := fq.on hb; replace fr := fr.on hb; replace fs := fs.on hb; replace ft := ft.on hb; replace fu := fu.on hb; replace hB := hB.trans (hb.mono hB.size); have hz16 := hb.size
  (try go_wp2_with fail)
  refine hK.out _ _ (⟨keep4 hb qp hR0.1, keep4 hb qq hR0.2.1, keep4 hb qr hR0.2.2.1, keep4 hb qs hR0.2.2.2.1, keep4 hb qt hR0.2.2.2.2.1, keep4 hb qu hR0.2.2.2.2.2⟩) (fun hR1 => ?_)
  clear hK K hR0
  (first | ((fail_if_success (unfold Act.put)); (try simp only [List.setIfInBounds_toArray, List.set])) | (try simp only [Act.put, List.setIfInBounds_toArray, List.set]))
  replace qp := Nat.lt_of_lt_of_le qp hz16
  replace qq := Nat.lt_of_lt_of_le qq hz16
  replace qr := Nat.lt_of_lt_of_le qr hz16
  replace qs := Nat.lt_of_lt_of_le qs hz16
  replace qt := Nat.lt_of_lt_of_le qt hz16
  replace qu := Nat.lt_of_lt_of_le qu hz16
  clear hb hBd
  refine rd1 (i := 4) (by kernel_rfl) rfl (fun K hK => ?_)
  go_simp
  go_at_call 43; have hBd := hB; refine (HEr.out _ _ _ g1 fr).mono ?_; rintro e w17 ⟨rfl, hb⟩; replace xia := xia.on hb; replace xib := xib.on hb; replace xp := xp.on hb; replace xq := xq.on hb; replace xr := xr.on hb; replace xs := xs.on hb; replace xt := xt.on hb; replace xu := xu.on hb; replace ia := ia.on hb; replace ib := ib.on hb; replace fp := fp.on hb; replace fq := fq.on hb; replace fr := fr.on hb; replace fs := fs.on hb; replace ft := ft.on hb; replace fu := fu.on hb; replace g1 := g1.on hb; replace hB := hB.trans (hb.mono hB.size); have hz17 := hb.size
  (try go_wp2_with fail)
  refine hK.out _ _ (⟨keep4 hb qp hR1.1, keep4 hb qq hR1.2.1, keep4 hb qr hR1.2.2.1, keep4 hb qs hR1.2.2.2.1, keep4 hb qt hR1.2.2.2.2.1, keep4 hb qu hR1.2.2.2.2.2⟩) (fun hR2 => ?_)
  clear hK K hR1
  (first | ((fail_if_success (unfold Act.put)); (try simp only [List.setIfInBounds_toArray, List.set])) | (try simp only [Act.put, List.setIfInBounds_toArray, List.set]))
  replace qp := Nat.lt_of_lt_of_le qp hz17
  replace qq := Nat.lt_of_lt_of_le qq hz17
  replace qr := Nat.lt_of_lt_of_le qr hz17
  replace qs := Nat.lt_of_lt_of_le qs hz17
  replace qt := Nat.lt_of_lt_of_le qt hz17
  replace qu := Nat.lt_of_lt_of_le qu hz17
  clear hb hBd
  refine tk (i := 5) (v := ?_) rfl (by kernel_rfl) (fun _ _ _ h => h) (by rfl) ?_ (by assumption) ?_
  rotate_left 1
  · (intro w hSw; (try dsimp only at hSw); go_simp <;> (with_reducible rfl))
  (try simp only [Act.put, List.setIfInBounds_toArray, List.set])
  refine tk (i := 6) (v := ?_) rfl (by kernel_rfl) (fun _ _ _ h => h) (by rfl) ?_ (by assumption) ?_
  rotate_left 1
  · (intro w hSw; (try dsimp only at hSw); go_simp <;> (with_reducible rfl))
  (try simp only [Act.put, List.setIfInBounds_toArray, List.set])
  refine tk (i := 7) (v := ?_) rfl (by kernel_rfl) (fun _ _ _ h => h) (by rfl) ?_ (by assumption) ?_
  rotate_left 1
  · (intro w hSw; (try dsimp only at hSw); go_simp <;> (with_reducible rfl))
  (try simp only [Act.put, List.setIfInBounds_toArray, List.set])
  refine tk (i := 9) (v := ?_) rfl (by kernel_rfl) (fun _ _ _ h => h) (by rfl) ?_ (by assumption) ?_
  rotate_left 1
  · (intro w hSw; (try dsimp only at hSw); go_simp <;> (with_reducible rfl))
  (try simp only [Act.put, List.setIfInBounds_toArray, List.set])
  refine rd1 (i := 8) (by kernel_rfl) rfl (fun K hK => ?_)
  go_simp
  go_at_call 45; have hBd := hB; refine (HY2.out _ _ _ fp fs).mono ?_; rintro e w18 ⟨⟨v2, rfl, g2⟩, hb⟩; replace xia := xia.on hb; replace xib := xib.on hb; replace xp := xp.on hb; replace xq := xq.on hb; replace xr := xr.on hb; replace xs := xs.on hb; replace xt := xt.on hb; replace xu := xu.on hb; replace ia := ia.on hb; replace ib := ib.on hb; replace fp := fp.on hb; replace fq := fq.on hb; replace fr := fr.on hb; replace fs := fs.on hb; replace ft := ft.on hb; replace fu := fu.on hb; replace g1 := g1.on hb; replace hB := hB.trans (hb.mono hB.size); have hz18 := hb.size
  (try go_wp2_with fail)
  refine hK.out _ _ (⟨keep4 hb qp hR2.1, keep4 hb qq hR2.2.1, keep4 hb qr hR2.2.2.1, keep4 hb qs hR2.2.2.2.1, keep4 hb qt hR2.2.2.2.2.1, keep4 hb qu hR2.2.2.2.2.2⟩) (fun hR3 => ?_)
  clear hK K hR2
  (first | ((fail_if_success (unfold Act.put)); (try simp only [List.setIfInBounds_toArray, List.set])) | (try simp only [Act.put, List.setIfInBounds_toArray, List.set]))
  replace qp := Nat.lt_of_lt_of_le qp hz18
  replace qq := Nat.lt_of_lt_of_le qq hz18
  replace qr := Nat.lt_of_lt_of_le qr hz18
  replace qs := Nat.lt_of_lt_of_le qs hz18
  replace qt := Nat.lt_of_lt_of_le qt hz18
  replace qu := Nat.lt_of_lt_of_le qu hz18
  clear hb hBd
  refine rd1 (i := 10) (by kernel_rfl) rfl (fun K hK => ?_)
  go_simp
  go_at_call 43; have hBd := hB; refine (HEt.out _ _ _ g2 ft).mono ?_; rintro e w19 ⟨rfl, hb⟩; replace xia := xia.on hb; replace xib := xib.on hb; replace xp := xp.on hb; replace xq := xq.on hb; replace xr := xr.on hb; replace xs := xs.on hb; replace xt := xt.on hb; replace xu := xu.on hb; replace ia := ia.on hb; replace ib := ib.on hb; replace fp := fp.on hb; replace fq := fq.on hb; replace fr := fr.on hb; replace fs := fs.on hb; replace ft := ft.on hb; replace fu := fu.on hb; replace g1 := g1.on hb; replace g2 := g2.on hb; replace hB := hB.trans (hb.mono hB.size); have hz19 := hb.size
  (try go_wp2_with fail)
  refine hK.out _ _ (⟨keep4 hb qp hR3.1, keep4 hb qq hR3.2.1, keep4 hb qr hR3.2.2.1, keep4 hb qs hR3.2.2.2.1, keep4 hb qt hR3.2.2.2.2.1, keep4 hb qu hR3.2.2.2.2.2⟩) (fun hR4 => ?_)
  clear hK K hR3
  (first | ((fail_if_success (unfold Act.put)); (try simp only [List.setIfInBounds_toArray, List.set])) | (try simp only [Act.put, List.setIfInBounds_toArray, List.set]))
  replace qp := Nat.lt_of_lt_of_le qp hz19
  replace qq := Nat.lt_of_lt_of_le qq hz19
  replace qr := Nat.lt_of_lt_of_le qr hz19
  replace qs := Nat.lt_of_lt_of_le qs hz19
  replace qt := Nat.lt_of_lt_of_le qt hz19
  replace qu := Nat.lt_of_lt_of_le qu hz19
  clear hb hBd
  refine tk (i := 11) (v := ?_) rfl (by kernel_rfl) (fun _ _ _ h => h) (by rfl) ?_ (by assumption) ?_
  rotate_left 1
  · (intro w hSw; (try dsimp only at hSw); go_simp <;> (with_reducible rfl))
  (try simp only [Act.put, List.setIfInBounds_toArray, List.set])
  refine tk (i := 12) (v := ?_) rfl (by kernel_rfl) (fun _ _ _ h => h) (by rfl) ?_ (by assumption) ?_
  rotate_left 1
  · (intro w hSw; (try dsimp only at hSw); go_simp <;> (with_reducible rfl))
  (try simp only [Act.put, List.setIfInBounds_toArray, List.set])
  refine tk (i := 13) (v := ?_) rfl (by kernel_rfl) (fun _ _ _ h => h) (by rfl) ?_ (by assumption) ?_
  rotate_left 1
  · (intro w hSw; (try dsimp only at hSw); go_simp <;> (with_reducible rfl))
  (try simp only [Act.put, List.setIfInBounds_toArray, List.set])
  refine tk (i := 14) (v := ?_) rfl (by kernel_rfl) (fun _ _ _ h => h) (by rfl) ?_ (by assumption) ?_
  rotate_left 1
  · (intro w hSw; (try dsimp only at hSw); go_simp <;> (with_reducible rfl))
  (try simp only [Act.put, List.setIfInBounds_toArray, List.set])
  refine rd1 (i := 15) (by kernel_rfl) rfl (fun K hK => ?_)
  go_simp
  go_at_call 45; have hBd := hB; refine (HY3.out _ _ _ fp fu).mono ?_; rintro e w20 ⟨⟨v3, rfl, g3⟩, hb⟩; replace xia := xia.on hb; replace xib := xib.on hb; replace xp := xp.on hb; replace xq := xq.on hb; replace xr := xr.on hb; replace xs := xs.on hb; replace xt := xt.on hb; replace xu := xu.on hb; replace ia := ia.on hb; replace ib := ib.on hb; replace fp := fp.on hb; replace fq := fq.on hb; replace fr := fr.on hb; replace fs := fs.on hb; replace ft := ft.on hb; replace fu := fu.on hb; replace g1 := g1.on hb; replace g2 := g2.on hb; replace hB := hB.trans (hb.mono hB.size); have hz20 := hb.size
  (try go_wp2_with fail)
  refine hK.out _ _ (⟨keep4 hb qp hR4.1, keep4 hb qq hR4.2.1, keep4 hb qr hR4.2.2.1, keep4 hb qs hR4.2.2.2.1, keep4 hb qt hR4.2.2.2.2.1, keep4 hb qu hR4.2.2.2.2.2⟩) (fun hR5 => ?_)
  clear hK K hR4
  (first | ((fail_if_success (unfold Act.put)); (try simp only [List.setIfInBounds_toArray, List.set])) | (try simp only [Act.put, List.setIfInBounds_toArray, List.set]))
  replace qp := Nat.lt_of_lt_of_le qp hz20
  replace qq := Nat.lt_of_lt_of_le qq hz20
  replace qr := Nat.lt_of_lt_of_le qr hz20
  replace qs := Nat.lt_of_lt_of_le qs hz20
  replace qt := Nat.lt_of_lt_of_le qt hz20
  replace qu := Nat.lt_of_lt_of_le qu hz20
  clear hb hBd
  refine rd1 (i := 16) (by kernel_rfl) rfl (fun K hK => ?_)
  go_simp
  go_at_call 23; have hBd := hB; refine (H1.out _).mono ?_; rintro e w21 ⟨⟨v4, rfl, g4⟩, hb⟩; replace xia := xia.on hb; replace xib := xib.on hb; replace xp := xp.on hb; replace xq := xq.on hb; replace xr := xr.on hb; replace xs := xs.on hb; replace xt := xt.on hb; replace xu := xu.on hb; replace ia := ia.on hb; replace ib := ib.on hb; replace fp := fp.on hb; replace fq := fq.on hb; replace fr := fr.on hb; replace fs := fs.on hb; replace ft := ft.on hb; replace fu := fu.on hb; replace g1 := g1.on hb; replace g2 := g2.on hb; replace g3 := g3.on hb; replace hB := hB.trans (hb.mono hB.size); have hz21 := hb.size
  (try go_wp2_with fail)
  refine hK.out _ _ (⟨keep4 hb qp hR5.1, keep4 hb qq hR5.2.1, keep4 hb qr hR5.2.2.1, keep4 hb qs hR5.2.2.2.1, keep4 hb qt hR5.2.2.2.2.1, keep4 hb qu hR5.2.2.2.2.2⟩) (fun hR6 => ?_)
  clear hK K hR5
  (first | ((fail_if_success (unfold Act.put)); (try simp only [List.setIfInBounds_toArray, List.set])) | (try simp only [Act.put, List.setIfInBounds_toArray, List.set]))
  replace qp := Nat.lt_of_lt_of_le qp hz21
  replace qq := Nat.lt_of_lt_of_le qq hz21
  replace qr := Nat.lt_of_lt_of_le qr hz21
  replace qs := Nat.lt_of_lt_of_le qs hz21
  replace qt := Nat.lt_of_lt_of_le qt hz21
  replace qu := Nat.lt_of_lt_of_le qu hz21
  clear hb hBd
  refine rd1 (i := 17) (by kernel_rfl) rfl (fun K hK => ?_)
  go_simp
  go_at_call 43; have hBd := hB; refine (HE1.out _ _ _ g3 g4).mono ?_; rintro e w22 ⟨rfl, hb⟩; replace xia := xia.on hb; replace xib := xib.on hb; replace xp := xp.on hb; replace xq := xq.on hb; replace xr := xr.on hb; replace xs := xs.on hb; replace xt := xt.on hb; replace xu := xu.on hb; replace ia := ia.on hb; replace ib := ib.on hb; replace fp := fp.on hb; replace fq := fq.on hb; replace fr := fr.on hb; replace fs := fs.on hb; replace ft := ft.on hb; replace fu := fu.on hb; replace g1 := g1.on hb; replace g2 := g2.on hb; replace g3 := g3.on hb; replace g4 := g4.on hb; replace hB := hB.trans (hb.mono hB.size); have hz22 := hb.size
  (try go_wp2_with fail)
  refine hK.out _ _ (⟨keep4 hb qp hR6.1, keep4 hb qq hR6.2.1, keep4 hb qr hR6.2.2.1, keep4 hb qs hR6.2.2.2.1, keep4 hb qt hR6.2.2.2.2.1, keep4 hb qu hR6.2.2.2.2.2⟩) (fun hR7 => ?_)
  clear hK K hR6
  (first | ((fail_if_success (unfold Act.put)); (try simp only [List.setIfInBounds_toArray, List.set])) | (try simp only [Act.put, List.setIfInBounds_toArray, List.set]))
  replace qp := Nat.lt_of_lt_of_le qp hz22
  replace qq := Nat.lt_of_lt_of_le qq hz22
  replace qr := Nat.lt_of_lt_of_le qr hz22
  replace qs := Nat.lt_of_lt_of_le qs hz22
  replace qt := Nat.lt_of_lt_of_le qt hz22
  replace qu := Nat.lt_of_lt_of_le qu hz22
  clear hb hBd
  refine tk (i := 18) (v := ?_) rfl (by kernel_rfl) (fun _ _ _ h => h) (by rfl) ?_ (by assumption) ?_
  rotate_left 1
  · (intro w hSw; (try dsimp only at hSw); go_simp <;> (with_reducible rfl))
  (try simp only [Act.put, List.setIfInBounds_toArray, List.set])
  refine tk (i := 19) (v := ?_) rfl (by kernel_rfl) (fun _ _ _ h => h) (by rfl) ?_ (by assumption) ?_
  rotate_left 1
  · (intro w hSw; (try dsimp only at hSw); go_simp <;> (with_reducible rfl))
  (try simp only [Act.put, List.setIfInBounds_toArray, List.set])
  refine wpAnyH_done (by kernel_rfl) ?_ _
  refine NoPanic.normal ?_
  clear hR7
  clear qp qq qr qs qt qu
  go_wp2
  go_ret
  exact ⟨rfl, hB⟩
set_option maxRecDepth 100000 in
set_option maxHeartbeats 8000000 in
theorem FracPowers_ap (a b : Rat) (sa : Fz 8 8 a) (sb : Fz 8 8 b) (bia : Bool) (aia : Option Addr) (kia cia : Nat) (dia : Bool) (eia : Option Addr) (lia mia : Nat) (bib : Bool) (aib : Option Addr) (kib cib : Nat) (dib : Bool) (eib : Option Addr) (lib mib : Nat) (m n : Int) (ha : a = 0) (hs : 0 ≤ m.tmod 6) (w : World) (ia : Fra w (.agg #[.bool bia, .slice aia kia cia, .bool dia, .slice eia lia mia]) a) (ib : Fra w (.agg #[.bool bib, .slice aib kib cib, .bool dib, .slice eib lib mib]) b) :
    Calls Tryz.prog 13 #[.agg #[.bool bia, .slice aia kia cia, .bool dia, .slice eia lia mia], .agg #[.bool bib, .slice aib kib cib, .bool dib, .slice eib lib mib], .int .i64 m, .int .i64 n] w fun e w' => e = .returned (.bool true) ∧ Below w.heap.size w w' := by
  obtain ⟨M, hM⟩ : ∃ M, M = m.tmod 6 := ⟨_, rfl⟩
  obtain ⟨N, hN⟩ : ∃ N, N = n.tmod 6 := ⟨_, rfl⟩
  rw [← hM] at hs
  have hM1 := rem6 m
  have hN1 := rem6 n
  rw [← hM] at hM1
  rw [← hN] at hN1
  have eM : m.tmod 6 = M := hM.symm
  have eN : n.tmod 6 = N := hN.symm
  have eS : IntKind.i64.wrap (M + N) = M + N := by rw [IntKind.wrap_i64]; omega
  have eU : IntKind.i64.wrap (-M) = -M := by rw [IntKind.wrap_i64]; omega
  have hq : Fz 256 256 a := sa.mono (by decide) (by decide)
  have hqb : Fz 256 256 b := sb.mono (by decide) (by decide)
  have HP0 := Lib.hid (fun va W (h : Fra W va a) => frPow_lit va a 1 0 (Rat.zpow_zero a) (by decide) (by decide) (.inr (by decide)) hq (Fz.one.mono (by decide) (by decide)) W h)
  have HP1 := Lib.hid (fun va W (h : Fra W va a) => frPow_lit va a a 1 (Rat.zpow_one a) (by decide) (by decide) (.inr (by decide)) hq hq W h)
  have HE1 := Lib.hid (fun va vb W (h : Fra W va 1) (g : Fra W vb 1) => law2_equal_any va vb 1 (Fz.one.mono (by decide) (by decide)) W h g)
  have HEa := Lib.hid (fun va vb W (h : Fra W va a) (g : Fra W vb a) => law2_equal_any va vb a hq W h g)
  have H1 := Lib.hid (fun W => frFromInt_lit 1 1 (by decide +kernel) (by decide) (by decide) W)
  have H0 := Lib.hid (fun W => frFromInt_lit 0 0 (by decide +kernel) (by decide) (by decide) W)
  have HZ := Lib.hid (fun va W (h : Fra W va 0) => frPow_lit va 0 _ M rfl (by omega) (by omega) (.inr hs) (Fz.zero.mono (by decide) (by decide)) (zero_zpow hs) W h)
  have hs2 : ¬ M < 0 := by omega
  clear hq hqb hM hN hM1 hN1
  have hB := Below.refl w.heap.size w
  obtain ⟨al, xia, hN⟩ := mk hB #[.bool bia, .slice aia kia cia, .bool dia, .slice eia lia mia] 26
  replace ia := ia.on al
  replace ib := ib.on al
  replace hB := hN
  clear al hN
  try simp only [World.size_alloc] at xia
  obtain ⟨al, xib, hN⟩ := mk hB #[.bool bib, .slice aib kib cib, .bool dib, .slice eib lib mib] 26
  replace xia := xia.on al
  replace ia := ia.on al
  replace ib := ib.on al
  replace hB := hN
  clear al hN
  try simp only [World.size_alloc] at xib
  go_enter Tryz.func13, Tryz.ntmps13
  go_wp2_with fail
  refine (law2_awake_any _).mono ?_
  rintro e w1 ⟨rfl, hb⟩
  replace xia := xia.on hb
  replace xib := xib.on hb
  replace ia := ia.on hb
  replace ib := ib.on hb
  have hz1 := hb.size
  try simp at hz1
  replace hB := hB.trans (hb.mono hB.size)
  clear hb
  have pia := xia.all4
  have pib := xib.all4
  have ltia := xia.lt
  have ltib := xib.lt
  go_wp2_with fail
  clear ltia
  clear ltib
  clear pia pib
  have hb := ((Below.refl w1.heap.size w1).alloc (Nat.le_refl _) (.cells #[.bool bia, .slice aia kia cia, .bool dia, .slice eia lia mia, .bool bib, .slice aib kib cib, .bool dib, .slice eib lib mib] 26))
  have xrow : Bk _ w1.heap.size #[.bool bia, .slice aia kia cia, .bool dia, .slice eia lia mia, .bool bib, .slice aib kib cib, .bool dib, .slice eib lib mib] 26 := (Bk.new w1 #[.bool bia, .slice aia kia cia, .bool dia, .slice eia lia mia, .bool bib, .slice aib kib cib, .bool dib, .slice eib lib mib] 26)
  replace xia := xia.on hb
  replace xib := xib.on hb
  replace ia := ia.on hb
  replace ib := ib.on hb
  replace hB := hB.trans (hb.mono hB.size)
  clear hb
  have rw0 := xrow.cell 0
  have rw1 := xrow.cell 1
  have rw2 := xrow.cell 2
  have rw3 := xrow.cell 3
  have rw4 := xrow.cell 4
  have rw5 := xrow.cell 5
  have rw6 := xrow.cell 6
  have rw7 := xrow.cell 7
  simp only [List.getElem?_toArray, List.getElem?_cons_zero, List.getElem?_cons_succ] at rw0 rw1 rw2 rw3 rw4 rw5 rw6 rw7
  refine (usable2_fra w1.heap.size a b bia aia kia cia dia eia lia mia bib aib kib cib dib eib lib mib _ rw0 rw1 rw2 rw3 rw4 rw5 rw6 rw7 ia ib (sa.mono (by decide) (by decide)) (sb.mono (by decide) (by decide))).mono ?_
  rintro e w2 ⟨rfl, hb⟩
  clear xrow rw0 rw1 rw2 rw3 rw4 rw5 rw6 rw7
  replace xia := xia.on hb
  replace xib := xib.on hb
  replace ia := ia.on hb
  replace ib := ib.on hb
  replace hB := hB.trans (hb.mono hB.size)
  clear hb
  have pia := xia.all4
  have pib := xib.all4
  have ltia := xia.lt
  have ltib := xib.lt
  go_wp2_with fail
  clear ltia
  clear ltib
  clear pia pib
  have hb := ((Below.refl w2.heap.size w2).alloc (Nat.le_refl _) (.cells #[.bool bia, .slice aia kia cia, .bool dia, .slice eia lia mia, .bool bib, .slice aib kib cib, .bool dib, .slice eib lib mib] 26))
  have xrow : Bk _ w2.heap.size #[.bool bia, .slice aia kia cia, .bool dia, .slice eia lia mia, .bool bib, .slice aib kib cib, .bool dib, .slice eib lib mib] 26 := (Bk.new w2 #[.bool bia, .slice aia kia cia, .bool dia, .slice eia lia mia, .bool bib, .slice aib kib cib, .bool dib, .slice eib lib mib] 26)
  replace xia := xia.on hb
  replace xib := xib.on hb
  replace ia := ia.on hb
  replace ib := ib.on hb
  replace hB := hB.trans (hb.mono hB.size)
  clear hb
  have rw0 := xrow.cell 0
  have rw1 := xrow.cell 1
  have rw2 := xrow.cell 2
  have rw3 := xrow.cell 3
  have rw4 := xrow.cell 4
  have rw5 := xrow.cell 5
  have rw6 := xrow.cell 6
  have rw7 := xrow.cell 7
  simp only [List.getElem?_toArray, List.getElem?_cons_zero, List.getElem?_cons_succ] at rw0 rw1 rw2 rw3 rw4 rw5 rw6 rw7
  refine (short2_fra 8 w2.heap.size a b bia aia kia cia dia eia lia mia bib aib kib cib dib eib lib mib _ rw0 rw1 rw2 rw3 rw4 rw5 rw6 rw7 ia ib sa sb).mono ?_
  rintro e w3 ⟨rfl, hb⟩
  clear xrow rw0 rw1 rw2 rw3 rw4 rw5 rw6 rw7
  replace xia := xia.on hb
  replace xib := xib.on hb
  replace ia := ia.on hb
  replace ib := ib.on hb
  replace hB := hB.trans (hb.mono hB.size)
  clear hb
  have pia := xia.all4
  have pib := xib.all4
  have ltia := xia.lt
  have ltib := xib.lt
  go_wp2_with fail
  clear ltia
  clear ltib
  clear pia pib
  refine (HP0.out _ _ ia).mono ?_
  rintro e w4 ⟨⟨v, rfl, fc⟩, hb⟩
  obtain ⟨bx1, ax1, kx1, cx1, dx1, ex1, lx1, mx1, rfl⟩ := fc.opened
  replace xia := xia.on hb
  replace xib := xib.on hb
  replace ia := ia.on hb
  replace ib := ib.on hb
  have hz4 := hb.size
  try simp at hz4
  replace hB := hB.trans (hb.mono hB.size)
  clear hb
  have pia := xia.all4
  have pib := xib.all4
  have ltia := xia.lt
  have ltib := xib.lt
  go_wp2_with fail
  clear ltia
  clear ltib
  clear pia pib
  have hb := ((Below.refl w4.heap.size w4).alloc (Nat.le_refl _) (.cells #[.bool bx1, .slice ax1 kx1 cx1, .bool dx1, .slice ex1 lx1 mx1] 26))
  have xc : Bk _ w4.heap.size #[.bool bx1, .slice ax1 kx1 cx1, .bool dx1, .slice ex1 lx1 mx1] 26 := (Bk.new w4 #[.bool bx1, .slice ax1 kx1 cx1, .bool dx1, .slice ex1 lx1 mx1] 26)
  replace xia := xia.on hb
  replace xib := xib.on hb
  replace ia := ia.on hb
  replace ib := ib.on hb
  replace fc := fc.on hb
  replace hB := hB.trans (hb.mono hB.size)
  clear hb
  obtain ⟨Wc, hWc⟩ : ∃ W, W = (w4.alloc (.cells #[.bool bx1, .slice ax1 kx1 cx1, .bool dx1, .slice ex1 lx1 mx1] 26)) := ⟨_, rfl⟩
  rw [← hWc] at hB xia xib xc ia ib fc ⊢
  clear hWc
  refine (HP1.out _ _ ia).mono ?_
  rintro e w5 ⟨⟨v, rfl, fd⟩, hb⟩
  obtain ⟨bx2, ax2, kx2, cx2, dx2, ex2, lx2, mx2, rfl⟩ := fd.opened
  replace xia := xia.on hb
  replace xib := xib.on hb
  replace xc := xc.on hb
  replace ia := ia.on hb
  replace ib := ib.on hb
  replace fc := fc.on hb
  have hz5 := hb.size
  try simp at hz5
  replace hB := hB.trans (hb.mono hB.size)
  clear hb
  have pia := xia.all4
  have pib := xib.all4
  have pc := xc.all4
  have ltia := xia.lt
  have ltib := xib.lt
  have ltc := xc.lt
  go_wp2_with fail
  clear ltia
  clear ltib
  clear ltc
  clear pia pib pc
  have hb := ((Below.refl w5.heap.size w5).alloc (Nat.le_refl _) (.cells #[.bool bx2, .slice ax2 kx2 cx2, .bool dx2, .slice ex2 lx2 mx2] 26))
  have xd : Bk _ w5.heap.size #[.bool bx2, .slice ax2 kx2 cx2, .bool dx2, .slice ex2 lx2 mx2] 26 := (Bk.new w5 #[.bool bx2, .slice ax2 kx2 cx2, .bool dx2, .slice ex2 lx2 mx2] 26)
  replace xia := xia.on hb
  replace xib := xib.on hb
  replace xc := xc.on hb
  replace ia := ia.on hb
  replace ib := ib.on hb
  replace fc := fc.on hb
  replace fd := fd.on hb
  replace hB := hB.trans (hb.mono hB.size)
  clear hb
  obtain ⟨Wd, hWd⟩ : ∃ W, W = (w5.alloc (.cells #[.bool bx2, .slice ax2 kx2 cx2, .bool dx2, .slice ex2 lx2 mx2] 26)) := ⟨_, rfl⟩
  rw [← hWd] at hB xia xib xc xd ia ib fc fd ⊢
  clear hWd
  have qc := xc.lt
  have qd := xd.lt
  have qia := xia.lt
  obtain ⟨gc0, gc1, gc2, gc3⟩ := xc.cells4
  obtain ⟨gd0, gd1, gd2, gd3⟩ := xd.cells4
  obtain ⟨gia0, gia1, gia2, gia3⟩ := xia.cells4
  refine wp_region_noPanic ?_
  refine wp_region_held_drew (S := (fun w' => (w'.cell? ⟨w4.heap.size, 0, none⟩ = some (.bool bx1) ∧ w'.cell? ⟨w4.heap.size, 1, none⟩ = some (.slice ax1 kx1 cx1) ∧ w'.cell? ⟨w4.heap.size, 2, none⟩ = some (.bool dx1) ∧ w'.cell? ⟨w4.heap.size, 3, none⟩ = some (.slice ex1 lx1 mx1)) ∧ (w'.cell? ⟨w5.heap.size, 0, none⟩ = some (.bool bx2) ∧ w'.cell? ⟨w5.heap.size, 1, none⟩ = some (.slice ax2 kx2 cx2) ∧ w'.cell? ⟨w5.heap.size, 2, none⟩ = some (.bool dx2) ∧ w'.cell? ⟨w5.heap.size, 3, none⟩ = some (.slice ex2 lx2 mx2)) ∧ w'.cell? ⟨w.heap.size, 0, none⟩ = some (.bool bia) ∧ w'.cell? ⟨w.heap.size, 1, none⟩ = some (.slice aia kia cia) ∧ w'.cell? ⟨w.heap.size, 2, none⟩ = some (.bool dia) ∧ w'.cell? ⟨w.heap.size, 3, none⟩ = some (.slice eia lia mia))) (by kernel_rfl) ⟨⟨gc0, gc1, gc2, gc3⟩, ⟨gd0, gd1, gd2, gd3⟩, ⟨gia0, gia1, gia2, gia3⟩⟩ (fun hR0 => ?_)
  change wpAnyH _ _ _ _ _ 18 #[false, false, false, false, false, false, false, false, false, false, false, false, false, false, false, false, false, false] _ _
  clear gc0 gc1 gc2 gc3 gd0 gd1 gd2 gd3 gia0 gia1 gia2 gia3
  refine tk (i := 0) (v := ?_) rfl (by kernel_rfl) (fun _ _ _ h => h) (by rfl) ?_ (by assumption) ?_
  rotate_left 1
  · (intro w hSw; (try dsimp only at hSw); go_simp <;> (with_reducible rfl))
  (try simp only [Act.put, List.setIfInBounds_toArray, List.set])
  refine tk (i := 1) (v := ?_) rfl (by kernel_rfl) (fun _ _ _ h => h) (by rfl) ?_ (by assumption) ?_
  rotate_left 1
  · (intro w hSw; (try dsimp only at hSw); go_simp <;> (with_reducible rfl))
  (try simp only [Act.put, List.setIfInBounds_toArray, List.set])
  refine tk (i := 2) (v := ?_) rfl (by kernel_rfl) (fun _ _ _ h => h) (by rfl) ?_ (by assumption) ?_
  rotate_left 1
  · (intro w hSw; (try dsimp only at hSw); go_simp <;> (with_reducible rfl))
  (try simp only [Act.put, List.setIfInBounds_toArray, List.set])
  refine tk (i := 3) (v := ?_) rfl (by kernel_rfl) (fun _ _ _ h => h) (by rfl) ?_ (by assumption) ?_
  rotate_left 1
  · (intro w hSw; (try dsimp only at hSw); go_simp <;> (with_reducible rfl))
  (try simp only [Act.put, List.setIfInBounds_toArray, List.set])
  refine tk (i := 4) (v := ?_) rfl (by kernel_rfl) (fun _ _ _ h => h) (by rfl) ?_ (by assumption) ?_
  rotate_left 1
  · (intro w hSw; (try dsimp only at hSw); go_simp <;> (with_reducible rfl))
  (try simp only [Act.put, List.setIfInBounds_toArray, List.set])
  refine tk (i := 5) (v := ?_) rfl (by kernel_rfl) (fun _ _ _ h => h) (by rfl) ?_ (by assumption) ?_
  rotate_left 1
  · (intro w hSw; (try dsimp only at hSw); go_simp <;> (with_reducible rfl))
  (try simp only [Act.put, List.setIfInBounds_toArray, List.set])
  refine tk (i := 6) (v := ?_) rfl (by kernel_rfl) (fun _ _ _ h => h) (by rfl) ?_ (by assumption) ?_
  rotate_left 1
  · (intro w hSw; (try dsimp only at hSw); go_simp <;> (with_reducible rfl))
  (try simp only [Act.put, List.setIfInBounds_toArray, List.set])
  refine tk (i := 7) (v := ?_) rfl (by kernel_rfl) (fun _ _ _ h => h) (by rfl) ?_ (by assumption) ?_
  rotate_left 1
  · (intro w hSw; (try dsimp only at hSw); go_simp <;> (with_reducible rfl))
  (try simp only [Act.put, List.setIfInBounds_toArray, List.set])
  refine rd1 (i := 8) (by kernel_rfl) rfl (fun K hK => ?_)
  go_simp
  go_at_call 23; have hBd := hB.drew; refine (H1.out _).mono ?_; rintro e w6 ⟨⟨v1, rfl, g1⟩, hb⟩; replace hb := (Below.refl Wd.heap.size Wd).drew.trans hb; replace xia := xia.on hb; replace xib := xib.on hb; replace xc := xc.on hb; replace xd := xd.on hb; replace ia := ia.on hb; replace ib := ib.on hb; replace fc := fc.on hb; replace fd := fd.on hb; replace hB := hB.trans (hb.mono hB.size); have hz6 := hb.size
  (try go_wp2_with fail)
  refine hK.out _ _ (⟨keep4 hb qc hR0.1, keep4 hb qd hR0.2.1, keep4 hb qia hR0.2.2⟩) (fun hR1 => ?_)
  clear hK K hR0
  (first | ((fail_if_success (unfold Act.put)); (try simp only [List.setIfInBounds_toArray, List.set])) | (try simp only [Act.put, List.setIfInBounds_toArray, List.set]))
  replace qc := Nat.lt_of_lt_of_le qc hz6
  replace qd := Nat.lt_of_lt_of_le qd hz6
  replace qia := Nat.lt_of_lt_of_le qia hz6
  clear hb hBd
  refine rd1 (i := 9) (by kernel_rfl) rfl (fun K hK => ?_)
  go_simp
  go_at_call 43; have hBd := hB; refine (HE1.out _ _ _ fc g1).mono ?_; rintro e w7 ⟨rfl, hb⟩; replace xia := xia.on hb; replace xib := xib.on hb; replace xc := xc.on hb; replace xd := xd.on hb; replace ia := ia.on hb; replace ib := ib.on hb; replace fc := fc.on hb; replace fd := fd.on hb; replace g1 := g1.on hb; replace hB := hB.trans (hb.mono hB.size); have hz7 := hb.size
  (try go_wp2_with fail)
  refine hK.out _ _ (⟨keep4 hb qc hR1.1, keep4 hb qd hR1.2.1, keep4 hb qia hR1.2.2⟩) (fun hR2 => ?_)
  clear hK K hR1
  (first | ((fail_if_success (unfold Act.put)); (try simp only [List.setIfInBounds_toArray, List.set])) | (try simp only [Act.put, List.setIfInBounds_toArray, List.set]))
  replace qc := Nat.lt_of_lt_of_le qc hz7
  replace qd := Nat.lt_of_lt_of_le qd hz7
  replace qia := Nat.lt_of_lt_of_le qia hz7
  clear hb hBd
  refine tk (i := 10) (v := ?_) rfl (by kernel_rfl) (fun _ _ _ h => h) (by rfl) ?_ (by assumption) ?_
  rotate_left 1
  · (intro w hSw; (try dsimp only at hSw); go_simp <;> (with_reducible rfl))
  (try simp only [Act.put, List.setIfInBounds_toArray, List.set])
  refine tk (i := 11) (v := ?_) rfl (by kernel_rfl) (fun _ _ _ h => h) (by rfl) ?_ (by assumption) ?_
  rotate_left 1
  · (intro w hSw; (try dsimp only at hSw); go_simp <;> (with_reducible rfl))
  (try simp only [Act.put, List.setIfInBounds_toArray, List.set])
  refine tk (i := 12) (v := ?_) rfl (by kernel_rfl) (fun _ _ _ h => h) (by rfl) ?_ (by assumption) ?_
  rotate_left 1
  · (intro w hSw; (try dsimp only at hSw); go_simp <;> (with_reducible rfl))
  (try simp only [Act.put, List.setIfInBounds_toArray, List.set])
  refine tk (i := 13) (v := ?_) rfl (by kernel_rfl) (fun _ _ _ h => h) (by rfl) ?_ (by assumption) ?_
  rotate_left 1
  · (intro w hSw; (try dsimp only at hSw); go_simp <;> (with_reducible rfl))
  (try simp only [Act.put, List.setIfInBounds_toArray, List.set])
  refine tk (i := 14) (v := ?_) rfl (by kernel_rfl) (fun _ _ _ h => h) (by rfl) ?_ (by assumption) ?_
  rotate_left 1
  · (intro w hSw; (try dsimp only at hSw); go_simp <;> (with_reducible rfl))
  (try simp only [Act.put, List.setIfInBounds_toArray, List.set])
  refine rd1 (i := 15) (by kernel_rfl) rfl (fun K hK => ?_)
  go_simp
  go_at_call 43; have hBd := hB; refine (HEa.out _ _ _ fd ia).mono ?_; rintro e w8 ⟨rfl, hb⟩; replace xia := xia.on hb; replace xib := xib.on hb; replace xc := xc.on hb; replace xd := xd.on hb; replace ia := ia.on hb; replace ib := ib.on hb; replace fc := fc.on hb; replace fd := fd.on hb; replace g1 := g1.on hb; replace hB := hB.trans (hb.mono hB.size); have hz8 := hb.size
  (try go_wp2_with fail)
  refine hK.out _ _ (⟨keep4 hb qc hR2.1, keep4 hb qd hR2.2.1, keep4 hb qia hR2.2.2⟩) (fun hR3 => ?_)
  clear hK K hR2
  (first | ((fail_if_success (unfold Act.put)); (try simp only [List.setIfInBounds_toArray, List.set])) | (try simp only [Act.put, List.setIfInBounds_toArray, List.set]))
  replace qc := Nat.lt_of_lt_of_le qc hz8
  replace qd := Nat.lt_of_lt_of_le qd hz8
  replace qia := Nat.lt_of_lt_of_le qia hz8
  clear hb hBd
  refine tk (i := 16) (v := ?_) rfl (by kernel_rfl) (fun _ _ _ h => h) (by rfl) ?_ (by assumption) ?_
  rotate_left 1
  · (intro w hSw; (try dsimp only at hSw); go_simp <;> (with_reducible rfl))
  (try simp only [Act.put, List.setIfInBounds_toArray, List.set])
  refine tk (i := 17) (v := ?_) rfl (by kernel_rfl) (fun _ _ _ h => h) (by rfl) ?_ (by assumption) ?_
  rotate_left 1
  · (intro w hSw; (try dsimp only at hSw); go_simp <;> (with_reducible rfl))
  (try simp only [Act.put, List.setIfInBounds_toArray, List.set])
  refine wpAnyH_done (by kernel_rfl) ?_ _
  refine NoPanic.normal ?_
  clear hR3
  clear qc qd qia
  clear g1
  clear fc
  clear fd
  clear xc
  clear xd
  have hk := (num_len (fra_nums ia).2.2.1).1
  rw [ha, show (0 : Rat).num.natAbs = 0 from rfl, dig_zero, List.length_nil] at hk
  subst hk
  have pia := xia.all4
  have pib := xib.all4
  have ltia := xia.lt
  have ltib := xib.lt
  go_wp2_with fail
  clear ltia
  clear ltib
  clear pia pib
  refine (H0.out _).mono ?_
  rintro e w9 ⟨⟨v0, rfl, g0⟩, hb⟩
  replace xia := xia.on hb
  replace xib := xib.on hb
  replace ia := ia.on hb
  replace ib := ib.on hb
  have hz9 := hb.size
  try simp at hz9
  replace hB := hB.trans (hb.mono hB.size)
  clear hb
  go_wp2_with fail
  refine (HZ.out _ _ g0).mono ?_
  rintro e w10 ⟨⟨v, rfl, fz⟩, hb⟩
  obtain ⟨bx9, ax9, kx9, cx9, dx9, ex9, lx9, mx9, rfl⟩ := fz.opened
  clear fz
  replace xia := xia.on hb
  replace xib := xib.on hb
  replace ia := ia.on hb
  replace ib := ib.on hb
  replace g0 := g0.on hb
  have hz10 := hb.size
  try simp at hz10
  replace hB := hB.trans (hb.mono hB.size)
  clear hb
  have pia := xia.all4
  have pib := xib.all4
  have ltia := xia.lt
  have ltib := xib.lt
  go_wp2
  go_ret
  exact ⟨by simp; omega, hB.alloc hB.size _⟩
set_option maxRecDepth 100000 in
set_option maxHeartbeats 8000000 in
theorem FracPowers_an (a b : Rat) (sa : Fz 8 8 a) (sb : Fz 8 8 b) (bia : Bool) (aia : Option Addr) (kia cia : Nat) (dia : Bool) (eia : Option Addr) (lia mia : Nat) (bib : Bool) (aib : Option Addr) (kib cib : Nat) (dib : Bool) (eib : Option Addr) (lib mib : Nat) (m n : Int) (ha : a = 0) (hs : m.tmod 6 < 0) (w : World) (ia : Fra w (.agg #[.bool bia, .slice aia kia cia, .bool dia, .slice eia lia mia]) a) (ib : Fra w (.agg #[.bool bib, .slice aib kib cib, .bool dib, .slice eib lib mib]) b) :
    Calls Tryz.prog 13 #[.agg #[.bool bia, .slice aia kia cia, .bool dia, .slice eia lia mia], .agg #[.bool bib, .slice aib kib cib, .bool dib, .slice eib lib mib], .int .i64 m, .int .i64 n] w fun e w' => e = .returned (.bool true) ∧ Below w.heap.size w w' := by
  obtain ⟨M, hM⟩ : ∃ M, M = m.tmod 6 := ⟨_, rfl⟩
  obtain ⟨N, hN⟩ : ∃ N, N = n.tmod 6 := ⟨_, rfl⟩
  rw [← hM] at hs
  have hM1 := rem6 m
  have hN1 := rem6 n
  rw [← hM] at hM1
  rw [← hN] at hN1
  have eM : m.tmod 6 = M := hM.symm
  have eN : n.tmod 6 = N := hN.symm
  have eS : IntKind.i64.wrap (M + N) = M + N := by rw [IntKind.wrap_i64]; omega
  have eU : IntKind.i64.wrap (-M) = -M := by rw [IntKind.wrap_i64]; omega
  have hq : Fz 256 256 a := sa.mono (by decide) (by decide)
  have hqb : Fz 256 256 b := sb.mono (by decide) (by decide)
  have HP0 := Lib.hid (fun va W (h : Fra W va a) => frPow_lit va a 1 0 (Rat.zpow_zero a) (by decide) (by decide) (.inr (by decide)) hq (Fz.one.mono (by decide) (by decide)) W h)
  have HP1 := Lib.hid (fun va W (h : Fra W va a) => frPow_lit va a a 1 (Rat.zpow_one a) (by decide) (by decide) (.inr (by decide)) hq hq W h)
  have HE1 := Lib.hid (fun va vb W (h : Fra W va 1) (g : Fra W vb 1) => law2_equal_any va vb 1 (Fz.one.mono (by decide) (by decide)) W h g)
  have HEa := Lib.hid (fun va vb W (h : Fra W va a) (g : Fra W vb a) => law2_equal_any va vb a hq W h g)
  have H1 := Lib.hid (fun W => frFromInt_lit 1 1 (by decide +kernel) (by decide) (by decide) W)
  have H0 := Lib.hid (fun W => frFromInt_lit 0 0 (by decide +kernel) (by decide) (by decide) W)
  have HZ := Lib.hid (fun va W (h : Fra W va 0) => frPow_lit0 va M hs (by omega) W h)
  have hs2 : M < 0 := hs
  clear hq hqb hM hN hM1 hN1
  have hB := Below.refl w.heap.size w
  obtain ⟨al, xia, hN⟩ := mk hB #[.bool bia, .slice aia kia cia, .bool dia, .slice eia lia mia] 26
  replace ia := ia.on al
  replace ib := ib.on al
  replace hB := hN
  clear al hN
  try simp only [World.size_alloc] at xia
  obtain ⟨al, xib, hN⟩ := mk hB #[.bool bib, .slice aib kib cib, .bool dib, .slice eib lib mib] 26
  replace xia := xia.on al
  replace ia := ia.on al
  replace ib := ib.on al
  replace hB := hN
  clear al hN
  try simp only [World.size_alloc] at xib
  go_enter Tryz.func13, Tryz.ntmps13
  go_wp2_with fail
  refine (law2_awake_any _).mono ?_
  rintro e w1 ⟨rfl, hb⟩
  replace xia := xia.on hb
  replace xib := xib.on hb
  replace ia := ia.on hb
  replace ib := ib.on hb
  have hz1 := hb.size
  try simp at hz1
  replace hB := hB.trans (hb.mono hB.size)
  clear hb
  have pia := xia.all4
  have pib := xib.all4
  have ltia := xia.lt
  have ltib := xib.lt
  go_wp2_with fail
  clear ltia
  clear ltib
  clear pia pib
  have hb := ((Below.refl w1.heap.size w1).alloc (Nat.le_refl _) (.cells #[.bool bia, .slice aia kia cia, .bool dia, .slice eia lia mia, .bool bib, .slice aib kib cib, .bool dib, .slice eib lib mib] 26))
  have xrow : Bk _ w1.heap.size #[.bool bia, .slice aia kia cia, .bool dia, .slice eia lia mia, .bool bib, .slice aib kib cib, .bool dib, .slice eib lib mib] 26 := (Bk.new w1 #[.bool bia, .slice aia kia cia, .bool dia, .slice eia lia mia, .bool bib, .slice aib kib cib, .bool dib, .slice eib lib mib] 26)
  replace xia := xia.on hb
  replace xib := xib.on hb
  replace ia := ia.on hb
  replace ib := ib.on hb
  replace hB := hB.trans (hb.mono hB.size)
  clear hb
  have rw0 := xrow.cell 0
  have rw1 := xrow.cell 1
  have rw2 := xrow.cell 2
  have rw3 := xrow.cell 3
  have rw4 := xrow.cell 4
  have rw5 := xrow.cell 5
  have rw6 := xrow.cell 6
  have rw7 := xrow.cell 7
  simp only [List.getElem?_toArray, List.getElem?_cons_zero, List.getElem?_cons_succ] at rw0 rw1 rw2 rw3 rw4 rw5 rw6 rw7
  refine (usable2_fra w1.heap.size a b bia aia kia cia dia eia lia mia bib aib kib cib dib eib lib mib _ rw0 rw1 rw2 rw3 rw4 rw5 rw6 rw7 ia ib (sa.mono (by decide) (by decide)) (sb.mono (by decide) (by decide))).mono ?_
  rintro e w2 ⟨rfl, hb⟩
  clear xrow rw0 rw1 rw2 rw3 rw4 rw5 rw6 rw7
  replace xia := xia.on hb
  replace xib := xib.on hb
  replace ia := ia.on hb
  replace ib := ib.on hb
  replace hB := hB.trans (hb.mono hB.size)
  clear hb
  have pia := xia.all4
  have pib := xib.all4
  have ltia := xia.lt
  have ltib := xib.lt
  go_wp2_with fail
  clear ltia
  clear ltib
  clear pia pib
  have hb := ((Below.refl w2.heap.size w2).alloc (Nat.le_refl _) (.cells #[.bool bia, .slice aia kia cia, .bool dia, .slice eia lia mia, .bool bib, .slice aib kib cib, .bool dib, .slice eib lib mib] 26))
  have xrow : Bk _ w2.heap.size #[.bool bia, .slice aia kia cia, .bool dia, .slice eia lia mia, .bool bib, .slice aib kib cib, .bool dib, .slice eib lib mib] 26 := (Bk.new w2 #[.bool bia, .slice aia kia cia, .bool dia, .slice eia lia mia, .bool bib, .slice aib kib cib, .bool dib, .slice eib lib mib] 26)
  replace xia := xia.on hb
  replace xib := xib.on hb
  replace ia := ia.on hb
  replace ib := ib.on hb
  replace hB := hB.trans (hb.mono hB.size)
  clear hb
  have rw0 := xrow.cell 0
  have rw1 := xrow.cell 1
  have rw2 := xrow.cell 2
  have rw3 := xrow.cell 3
  have rw4 := xrow.cell 4
  have rw5 := xrow.cell 5
  have rw6 := xrow.cell 6
  have rw7 := xrow.cell 7
  simp only [List.getElem?_toArray, List.getElem?_cons_zero, List.getElem?_cons_succ] at rw0 rw1 rw2 rw3 rw4 rw5 rw6 rw7
  refine (short2_fra 8 w2.heap.size a b bia aia kia cia dia eia lia mia bib aib kib cib dib eib lib mib _ rw0 rw1 rw2 rw3 rw4 rw5 rw6 rw7 ia ib sa sb).mono ?_
  rintro e w3 ⟨rfl, hb⟩
  clear xrow rw0 rw1 rw2 rw3 rw4 rw5 rw6 rw7
  replace xia := xia.on hb
  replace xib := xib.on hb
  replace ia := ia.on hb
  replace ib := ib.on hb
  replace hB := hB.trans (hb.mono hB.size)
  clear hb
  have pia := xia.all4
  have pib := xib.all4
  have ltia := xia.lt
  have ltib := xib.lt
  go_wp2_with fail
  clear ltia
  clear ltib
  clear pia pib
  refine (HP0.out _ _ ia).mono ?_
  rintro e w4 ⟨⟨v, rfl, fc⟩, hb⟩
  obtain ⟨bx1, ax1, kx1, cx1, dx1, ex1, lx1, mx1, rfl⟩ := fc.opened
  replace xia := xia.on hb
  replace xib := xib.on hb
  replace ia := ia.on hb
  replace ib := ib.on hb
  have hz4 := hb.size
  try simp at hz4
  replace hB := hB.trans (hb.mono hB.size)
  clear hb
  have pia := xia.all4
  have pib := xib.all4
  have ltia := xia.lt
  have ltib := xib.lt
  go_wp2_with fail
  clear ltia
  clear ltib
  clear pia pib
  have hb := ((Below.refl w4.heap.size w4).alloc (Nat.le_refl _) (.cells #[.bool bx1, .slice ax1 kx1 cx1, .bool dx1, .slice ex1 lx1 mx1] 26))
  have xc : Bk _ w4.heap.size #[.bool bx1, .slice ax1 kx1 cx1, .bool dx1, .slice ex1 lx1 mx1] 26 := (Bk.new w4 #[.bool bx1, .slice ax1 kx1 cx1, .bool dx1, .slice ex1 lx1 mx1] 26)
  replace xia := xia.on hb
  replace xib := xib.on hb
  replace ia := ia.on hb
  replace ib := ib.on hb
  replace fc := fc.on hb
  replace hB := hB.trans (hb.mono hB.size)
  clear hb
  obtain ⟨Wc, hWc⟩ : ∃ W, W = (w4.alloc (.cells #[.bool bx1, .slice ax1 kx1 cx1, .bool dx1, .slice ex1 lx1 mx1] 26)) := ⟨_, rfl⟩
  rw [← hWc] at hB xia xib xc ia ib fc ⊢
  clear hWc
  refine (HP1.out _ _ ia).mono ?_
  rintro e w5 ⟨⟨v, rfl, fd⟩, hb⟩
  obtain ⟨bx2, ax2, kx2, cx2, dx2, ex2, lx2, mx2, rfl⟩ := fd.opened
  replace xia := xia.on hb
  replace xib := xib.on hb
  replace xc := xc.on hb
  replace ia := ia.on hb
  replace ib := ib.on hb
  replace fc := fc.on hb
  have hz5 := hb.size
  try simp at hz5
  replace hB := hB.trans (hb.mono hB.size)
  clear hb
  have pia := xia.all4
  have pib := xib.all4
  have pc := xc.all4
  have ltia := xia.lt
  have ltib := xib.lt
  have ltc := xc.lt
  go_wp2_with fail
  clear ltia
  clear ltib
  clear ltc
  clear pia pib pc
  have hb := ((Below.refl w5.heap.size w5).alloc (Nat.le_refl _) (.cells #[.bool bx2, .slice ax2 kx2 cx2, .bool dx2, .slice ex2 lx2 mx2] 26))
  have xd : Bk _ w5.heap.size #[.bool bx2, .slice ax2 kx2 cx2, .bool dx2, .slice ex2 lx2 mx2] 26 := (Bk.new w5 #[.bool bx2, .slice ax2 kx2 cx2, .bool dx2, .slice ex2 lx2 mx2] 26)
  replace xia := xia.on hb
  replace xib := xib.on hb
  replace xc := xc.on hb
  replace ia := ia.on hb
  replace ib := ib.on hb
  replace fc := fc.on hb
  replace fd := fd.on hb
  replace hB := hB.trans (hb.mono hB.size)
  clear hb
  obtain ⟨Wd, hWd⟩ : ∃ W, W = (w5.alloc (.cells #[.bool bx2, .slice ax2 kx2 cx2, .bool dx2, .slice ex2 lx2 mx2] 26)) := ⟨_, rfl⟩
  rw [← hWd] at hB xia xib xc xd ia ib fc fd ⊢
  clear hWd
  have qc := xc.lt
  have qd := xd.lt
  have qia := xia.lt
  obtain ⟨gc0, gc1, gc2, gc3⟩ := xc.cells4
  obtain ⟨gd0, gd1, gd2, gd3⟩ := xd.cells4
  obtain ⟨gia0, gia1, gia2, gia3⟩ := xia.cells4
  refine wp_region_noPanic ?_
  refine wp_region_held_drew (S := (fun w' => (w'.cell? ⟨w4.heap.size, 0, none⟩ = some (.bool bx1) ∧ w'.cell? ⟨w4.heap.size, 1, none⟩ = some (.slice ax1 kx1 cx1) ∧ w'.cell? ⟨w4.heap.size, 2, none⟩ = some (.bool dx1) ∧ w'.cell? ⟨w4.heap.size, 3, none⟩ = some (.slice ex1 lx1 mx1)) ∧ (w'.cell? ⟨w5.heap.size, 0, none⟩ = some (.bool bx2) ∧ w'.cell? ⟨w5.heap.size, 1, none⟩ = some (.slice ax2 kx2 cx2) ∧ w'.cell? ⟨w5.heap.size, 2, none⟩ = some (.bool dx2) ∧ w'.cell? ⟨w5.heap.size, 3, none⟩ = some (.slice ex2 lx2 mx2)) ∧ w'.cell? ⟨w.heap.size, 0, none⟩ = some (.bool bia) ∧ w'.cell? ⟨w.heap.size, 1, none⟩ = some (.slice aia kia cia) ∧ w'.cell? ⟨w.heap.size, 2, none⟩ = some (.bool dia) ∧ w'.cell? ⟨w.heap.size, 3, none⟩ = some (.slice eia lia mia))) (by kernel_rfl) ⟨⟨gc0, gc1, gc2, gc3⟩, ⟨gd0, gd1, gd2, gd3⟩, ⟨gia0, gia1, gia2, gia3⟩⟩ (fun hR0 => ?_)
  change wpAnyH _ _ _ _ _ 18 #[false, false, false, false, false, false, false, false, false, false, false, false, false, false, false, false, false, false] _ _
  clear gc0 gc1 gc2 gc3 gd0 gd1 gd2 gd3 gia0 gia1 gia2 gia3
  refine tk (i := 0) (v := ?_) rfl (by kernel_rfl) (fun _ _ _ h => h) (by rfl) ?_ (by assumption) ?_
  rotate_left 1
  · (intro w hSw; (try dsimp only at hSw); go_simp <;> (with_reducible rfl))
  (try simp only [Act.put, List.setIfInBounds_toArray, List.set])
  refine tk (i := 1) (v := ?_) rfl (by kernel_rfl) (fun _ _ _ h => h) (by rfl) ?_ (by assumption) ?_
  rotate_left 1
  · (intro w hSw; (try dsimp only at hSw); go_simp <;> (with_reducible rfl))
  (try simp only [Act.put, List.setIfInBounds_toArray, List.set])
  refine tk (i := 2) (v := ?_) rfl (by kernel_rfl) (fun _ _ _ h => h) (by rfl) ?_ (by assumption) ?_
  rotate_left 1
  · (intro w hSw; (try dsimp only at hSw); go_simp <;> (with_reducible rfl))
  (try simp only [Act.put, List.setIfInBounds_toArray, List.set])
  refine tk (i := 3) (v := ?_) rfl (by kernel_rfl) (fun _ _ _ h => h) (by rfl) ?_ (by assumption) ?_
  rotate_left 1
  · (intro w hSw; (try dsimp only at hSw); go_simp <;> (with_reducible rfl))
  (try simp only [Act.put, List.setIfInBounds_toArray, List.set])
  refine tk (i := 4) (v := ?_) rfl (by kernel_rfl) (fun _ _ _ h => h) (by rfl) ?_ (by assumption) ?_
  rotate_left 1
  · (intro w hSw; (try dsimp only at hSw); go_simp <;> (with_reducible rfl))
  (try simp only [Act.put, List.setIfInBounds_toArray, List.set])
  refine tk (i := 5) (v := ?_) rfl (by kernel_rfl) (fun _ _ _ h => h) (by rfl) ?_ (by assumption) ?_
  rotate_left 1
  · (intro w hSw; (try dsimp only at hSw); go_simp <;> (with_reducible rfl))
  (try simp only [Act.put, List.setIfInBounds_toArray, List.set])
  refine tk (i := 6) (v := ?_) rfl (by kernel_rfl) (fun _ _ _ h => h) (by rfl) ?_ (by assumption) ?_
  rotate_left 1
  · (intro w hSw; (try dsimp only at hSw); go_simp <;> (with_reducible rfl))
  (try simp only [Act.put, List.setIfInBounds_toArray, List.set])
  refine tk (i := 7) (v := ?_) rfl (by kernel_rfl) (fun _ _ _ h => h) (by rfl) ?_ (by assumption) ?_
  rotate_left 1
  · (intro w hSw; (try dsimp only at hSw); go_simp <;> (with_reducible rfl))
  (try simp only [Act.put, List.setIfInBounds_toArray, List.set])
  refine rd1 (i := 8) (by kernel_rfl) rfl (fun K hK => ?_)
  go_simp
  go_at_call 23; have hBd := hB.drew; refine (H1.out _).mono ?_; rintro e w6 ⟨⟨v1, rfl, g1⟩, hb⟩; replace hb := (Below.refl Wd.heap.size Wd).drew.trans hb; replace xia := xia.on hb; replace xib := xib.on hb; replace xc := xc.on hb; replace xd := xd.on hb; replace ia := ia.on hb; replace ib := ib.on hb; replace fc := fc.on hb; replace fd := fd.on hb; replace hB := hB.trans (hb.mono hB.size); have hz6 := hb.size
  (try go_wp2_with fail)
  refine hK.out _ _ (⟨keep4 hb qc hR0.1, keep4 hb qd hR0.2.1, keep4 hb qia hR0.2.2⟩) (fun hR1 => ?_)
  clear hK K hR0
  (first | ((fail_if_success (unfold Act.put)); (try simp only [List.setIfInBounds_toArray, List.set])) | (try simp only [Act.put, List.setIfInBounds_toArray, List.set]))
  replace qc := Nat.lt_of_lt_of_le qc hz6
  replace qd := Nat.lt_of_lt_of_le qd hz6
  replace qia := Nat.lt_of_lt_of_le qia hz6
  clear hb hBd
  refine rd1 (i := 9) (by kernel_rfl) rfl (fun K hK => ?_)
  go_simp
  go_at_call 43; have hBd := hB; refine (HE1.out _ _ _ fc g1).mono ?_; rintro e w7 ⟨rfl, hb⟩; replace xia := xia.on hb; replace xib := xib.on hb; replace xc := xc.on hb; replace xd := xd.on hb; replace ia := ia.on hb; replace ib := ib.on hb; replace fc := fc.on hb; replace fd := fd.on hb; replace g1 := g1.on hb; replace hB := hB.trans (hb.mono hB.size); have hz7 := hb.size
  (try go_wp2_with fail)
  refine hK.out _ _ (⟨keep4 hb qc hR1.1, keep4 hb qd hR1.2.1, keep4 hb qia hR1.2.2⟩) (fun hR2 => ?_)
  clear hK K hR1
  (first | ((fail_if_success (unfold Act.put)); (try simp only [List.setIfInBounds_toArray, List.set])) | (try simp only [Act.put, List.setIfInBounds_toArray, List.set]))
  replace qc := Nat.lt_of_lt_of_le qc hz7
  replace qd := Nat.lt_of_lt_of_le qd hz7
  replace qia := Nat.lt_of_lt_of_le qia hz7
  clear hb hBd
  refine tk (i := 10) (v := ?_) rfl (by kernel_rfl) (fun _ _ _ h => h) (by rfl) ?_ (by assumption) ?_
  rotate_left 1
  · (intro w hSw; (try dsimp only at hSw); go_simp <;> (with_reducible rfl))
  (try simp only [Act.put, List.setIfInBounds_toArray, List.set])
  refine tk (i := 11) (v := ?_) rfl (by kernel_rfl) (fun _ _ _ h => h) (by rfl) ?_ (by assumption) ?_
  rotate_left 1
  · (intro w hSw; (try dsimp only at hSw); go_simp <;> (with_reducible rfl))
  (try simp only [Act.put, List.setIfInBounds_toArray, List.set])
  refine tk (i := 12) (v := ?_) rfl (by kernel_rfl) (fun _ _ _ h => h) (by rfl) ?_ (by assumption) ?_
  rotate_left 1
  · (intro w hSw; (try dsimp only at hSw); go_simp <;> (with_reducible rfl))
  (try simp only [Act.put, List.setIfInBounds_toArray, List.set])
  refine tk (i := 13) (v := ?_) rfl (by kernel_rfl) (fun _ _ _ h => h) (by rfl) ?_ (by assumption) ?_
  rotate_left 1
  · (intro w hSw; (try dsimp only at hSw); go_simp <;> (with_reducible rfl))
  (try simp only [Act.put, List.setIfInBounds_toArray, List.set])
  refine tk (i := 14) (v := ?_) rfl (by kernel_rfl) (fun _ _ _ h => h) (by rfl) ?_ (by assumption) ?_
  rotate_left 1
  · (intro w hSw; (try dsimp only at hSw); go_simp <;> (with_reducible rfl))
  (try simp only [Act.put, List.setIfInBounds_toArray, List.set])
  refine rd1 (i := 15) (by kernel_rfl) rfl (fun K hK => ?_)
  go_simp
  go_at_call 43; have hBd := hB; refine (HEa.out _ _ _ fd ia).mono ?_; rintro e w8 ⟨rfl, hb⟩; replace xia := xia.on hb; replace xib := xib.on hb; replace xc := xc.on hb; replace xd := xd.on hb; replace ia := ia.on hb; replace ib := ib.on hb; replace fc := fc.on hb; replace fd := fd.on hb; replace g1 := g1.on hb; replace hB := hB.trans (hb.mono hB.size); have hz8 := hb.size
  (try go_wp2_with fail)
  refine hK.out _ _ (⟨keep4 hb qc hR2.1, keep4 hb qd hR2.2.1, keep4 hb qia hR2.2.2⟩) (fun hR3 => ?_)
  clear hK K hR2
  (first | ((fail_if_success (unfold Act.put)); (try simp only [List.setIfInBounds_toArray, List.set])) | (try simp only [Act.put, List.setIfInBounds_toArray, List.set]))
  replace qc := Nat.lt_of_lt_of_le qc hz8
  replace qd := Nat.lt_of_lt_of_le qd hz8
  replace qia := Nat.lt_of_lt_of_le qia hz8
  clear hb hBd
  refine tk (i := 16) (v := ?_) rfl (by kernel_rfl) (fun _ _ _ h => h) (by rfl) ?_ (by assumption) ?_
  rotate_left 1
  · (intro w hSw; (try dsimp only at hSw); go_simp <;> (with_reducible rfl))
  (try simp only [Act.put, List.setIfInBounds_toArray, List.set])
  refine tk (i := 17) (v := ?_) rfl (by kernel_rfl) (fun _ _ _ h => h) (by rfl) ?_ (by assumption) ?_
  rotate_left 1
  · (intro w hSw; (try dsimp only at hSw); go_simp <;> (with_reducible rfl))
  (try simp only [Act.put, List.setIfInBounds_toArray, List.set])
  refine wpAnyH_done (by kernel_rfl) ?_ _
  refine NoPanic.normal ?_
  clear hR3
  clear qc qd qia
  clear g1
  clear fc
  clear fd
  clear xc
  clear xd
  have hk := (num_len (fra_nums ia).2.2.1).1
  rw [ha, show (0 : Rat).num.natAbs = 0 from rfl, dig_zero, List.length_nil] at hk
  subst hk
  have pia := xia.all4
  have pib := xib.all4
  have ltia := xia.lt
  have ltib := xib.lt
  go_wp2_with fail
  clear ltia
  clear ltib
  clear pia pib
  refine (H0.out _).mono ?_
  rintro e w9 ⟨⟨v0, rfl, g0⟩, hb⟩
  replace xia := xia.on hb
  replace xib := xib.on hb
  replace ia := ia.on hb
  replace ib := ib.on hb
  have hz9 := hb.size
  try simp at hz9
  replace hB := hB.trans (hb.mono hB.size)
  clear hb
  go_wp2_with fail
  refine (HZ.out _ _ g0).mono ?_
  rintro e w10 ⟨rfl, hb⟩
  replace xia := xia.on hb
  replace xib := xib.on hb
  replace ia := ia.on hb
  replace ib := ib.on hb
  replace g0 := g0.on hb
  have hz10 := hb.size
  try simp at hz10
  replace hB := hB.trans (hb.mono hB.size)
  clear hb
  go_wp2
  go_ret
  exact ⟨by simp, hB.alloc hB.size _⟩
set_option maxRecDepth 100000 in
set_option maxHeartbeats 8000000 in
theorem FracPowers_bp (a b : Rat) (sa : Fz 8 8 a) (sb : Fz 8 8 b) (bia : Bool) (aia : Option Addr) (kia cia : Nat) (dia : Bool) (eia : Option Addr) (lia mia : Nat) (bib : Bool) (aib : Option Addr) (kib cib : Nat) (dib : Bool) (eib : Option Addr) (lib mib : Nat) (m n : Int) (ha : a ≠ 0) (hb : b = 0) (hs : 0 ≤ m.tmod 6) (w : World) (ia : Fra w (.agg #[.bool bia, .slice aia kia cia, .bool dia, .slice eia lia mia]) a) (ib : Fra w (.agg #[.bool bib, .slice aib kib cib, .bool dib, .slice eib lib mib]) b) :
    Calls Tryz.prog 13 #[.agg #[.bool bia, .slice aia kia cia, .bool dia, .slice eia lia mia], .agg #[.bool bib, .slice aib kib cib, .bool dib, .slice eib lib mib], .int .i64 m, .int .i64 n] w fun e w' => e = .returned (.bool true) ∧ Below w.heap.size w w' := by
  obtain ⟨M, hM⟩ : ∃ M, M = m.tmod 6 := ⟨_, rfl⟩
  obtain ⟨N, hN⟩ : ∃ N, N = n.tmod 6 := ⟨_, rfl⟩
  rw [← hM] at hs
  have hM1 := rem6 m
  have hN1 := rem6 n
  rw [← hM] at hM1
  rw [← hN] at hN1
  have eM : m.tmod 6 = M := hM.symm
  have eN : n.tmod 6 = N := hN.symm
  have eS : IntKind.i64.wrap (M + N) = M + N := by rw [IntKind.wrap_i64]; omega
  have eU : IntKind.i64.wrap (-M) = -M := by rw [IntKind.wrap_i64]; omega
  have hq : Fz 256 256 a := sa.mono (by decide) (by decide)
  have hqb : Fz 256 256 b := sb.mono (by decide) (by decide)
  have HP0 := Lib.hid (fun va W (h : Fra W va a) => frPow_lit va a 1 0 (Rat.zpow_zero a) (by decide) (by decide) (.inr (by decide)) hq (Fz.one.mono (by decide) (by decide)) W h)
  have HP1 := Lib.hid (fun va W (h : Fra W va a) => frPow_lit va a a 1 (Rat.zpow_one a) (by decide) (by decide) (.inr (by decide)) hq hq W h)
  have HE1 := Lib.hid (fun va vb W (h : Fra W va 1) (g : Fra W vb 1) => law2_equal_any va vb 1 (Fz.one.mono (by decide) (by decide)) W h g)
  have HEa := Lib.hid (fun va vb W (h : Fra W va a) (g : Fra W vb a) => law2_equal_any va vb a hq W h g)
  have H1 := Lib.hid (fun W => frFromInt_lit 1 1 (by decide +kernel) (by decide) (by decide) W)
  have H0 := Lib.hid (fun W => frFromInt_lit 0 0 (by decide +kernel) (by decide) (by decide) W)
  have HZ := Lib.hid (fun va W (h : Fra W va 0) => frPow_lit va 0 _ M rfl (by omega) (by omega) (.inr hs) (Fz.zero.mono (by decide) (by decide)) (zero_zpow hs) W h)
  have hs2 : ¬ M < 0 := by omega
  clear hq hqb hM hN hM1 hN1
  have hB := Below.refl w.heap.size w
  obtain ⟨al, xia, hN⟩ := mk hB #[.bool bia, .slice aia kia cia, .bool dia, .slice eia lia mia] 26
  replace ia := ia.on al
  replace ib := ib.on al
  replace hB := hN
  clear al hN
  try simp only [World.size_alloc] at xia
  obtain ⟨al, xib, hN⟩ := mk hB #[.bool bib, .slice aib kib cib, .bool dib, .slice eib lib mib] 26
  replace xia := xia.on al
  replace ia := ia.on al
  replace ib := ib.on al
  replace hB := hN
  clear al hN
  try simp only [World.size_alloc] at xib
  go_enter Tryz.func13, Tryz.ntmps13
  go_wp2_with fail
  refine (law2_awake_any _).mono ?_
  rintro e w1 ⟨rfl, hb⟩
  replace xia := xia.on hb
  replace xib := xib.on hb
  replace ia := ia.on hb
  replace ib := ib.on hb
  have hz1 := hb.size
  try simp at hz1
  replace hB := hB.trans (hb.mono hB.size)
  clear hb
  have pia := xia.all4
  have pib := xib.all4
  have ltia := xia.lt
  have ltib := xib.lt
  go_wp2_with fail
  clear ltia
  clear ltib
  clear pia pib
  have hb := ((Below.refl w1.heap.size w1).alloc (Nat.le_refl _) (.cells #[.bool bia, .slice aia kia cia, .bool dia, .slice eia lia mia, .bool bib, .slice aib kib cib, .bool dib, .slice eib lib mib] 26))
  have xrow : Bk _ w1.heap.size #[.bool bia, .slice aia kia cia, .bool dia, .slice eia lia mia, .bool bib, .slice aib kib cib, .bool dib, .slice eib lib mib] 26 := (Bk.new w1 #[.bool bia, .slice aia kia cia, .bool dia, .slice eia lia mia, .bool bib, .slice aib kib cib, .bool dib, .slice eib lib mib] 26)
  replace xia := xia.on hb
  replace xib := xib.on hb
  replace ia := ia.on hb
  replace ib := ib.on hb
  replace hB := hB.trans (hb.mono hB.size)
  clear hb
  have rw0 := xrow.cell 0
  have rw1 := xrow.cell 1
  have rw2 := xrow.cell 2
  have rw3 := xrow.cell 3
  have rw4 := xrow.cell 4
  have rw5 := xrow.cell 5
  have rw6 := xrow.cell 6
  have rw7 := xrow.cell 7
  simp only [List.getElem?_toArray, List.getElem?_cons_zero, List.getElem?_cons_succ] at rw0 rw1 rw2 rw3 rw4 rw5 rw6 rw7
  refine (usable2_fra w1.heap.size a b bia aia kia cia dia eia lia mia bib aib kib cib dib eib lib mib _ rw0 rw1 rw2 rw3 rw4 rw5 rw6 rw7 ia ib (sa.mono (by decide) (by decide)) (sb.mono (by decide) (by decide))).mono ?_
  rintro e w2 ⟨rfl, hb⟩
  clear xrow rw0 rw1 rw2 rw3 rw4 rw5 rw6 rw7
  replace xia := xia.on hb
  replace xib := xib.on hb
  replace ia := ia.on hb
  replace ib := ib.on hb
  replace hB := hB.trans (hb.mono hB.size)
  clear hb
  have pia := xia.all4
  have pib := xib.all4
  have ltia := xia.lt
  have ltib := xib.lt
  go_wp2_with fail
  clear ltia
  clear ltib
  clear pia pib
  have hb := ((Below.refl w2.heap.size w2).alloc (Nat.le_refl _) (.cells #[.bool bia, .slice aia kia cia, .bool dia, .slice eia lia mia, .bool bib, .slice aib kib cib, .bool dib, .slice eib lib mib] 26))
  have xrow : Bk _ w2.heap.size #[.bool bia, .slice aia kia cia, .bool dia, .slice eia lia mia, .bool bib, .slice aib kib cib, .bool dib, .slice eib lib mib] 26 := (Bk.new w2 #[.bool bia, .slice aia kia cia, .bool dia, .slice eia lia mia, .bool bib, .slice aib kib cib, .bool dib, .slice eib lib mib] 26)
  replace xia := xia.on hb
  replace xib := xib.on hb
  replace ia := ia.on hb
  replace ib := ib.on hb
  replace hB := hB.trans (hb.mono hB.size)
  clear hb
  have rw0 := xrow.cell 0
  have rw1 := xrow.cell 1
  have rw2 := xrow.cell 2
  have rw3 := xrow.cell 3
  have rw4 := xrow.cell 4
  have rw5 := xrow.cell 5
  have rw6 := xrow.cell 6
  have rw7 := xrow.cell 7
  simp only [List.getElem?_toArray, List.getElem?_cons_zero, List.getElem?_cons_succ] at rw0 rw1 rw2 rw3 rw4 rw5 rw6 rw7
  refine (short2_fra 8 w2.heap.size a b bia aia kia cia dia eia lia mia bib aib kib cib dib eib lib mib _ rw0 rw1 rw2 rw3 rw4 rw5 rw6 rw7 ia ib sa sb).mono ?_
  rintro e w3 ⟨rfl, hb⟩
  clear xrow rw0 rw1 rw2 rw3 rw4 rw5 rw6 rw7
  replace xia := xia.on hb
  replace xib := xib.on hb
  replace ia := ia.on hb
  replace ib := ib.on hb
  replace hB := hB.trans (hb.mono hB.size)
  clear hb
  have pia := xia.all4
  have pib := xib.all4
  have ltia := xia.lt
  have ltib := xib.lt
  go_wp2_with fail
  clear ltia
  clear ltib
  clear pia pib
  refine (HP0.out _ _ ia).mono ?_
  rintro e w4 ⟨⟨v, rfl, fc⟩, hb⟩
  obtain ⟨bx1, ax1, kx1, cx1, dx1, ex1, lx1, mx1, rfl⟩ := fc.opened
  replace xia := xia.on hb
  replace xib := xib.on hb
  replace ia := ia.on hb
  replace ib := ib.on hb
  have hz4 := hb.size
  try simp at hz4
  replace hB := hB.trans (hb.mono hB.size)
  clear hb
  have pia := xia.all4
  have pib := xib.all4
  have ltia := xia.lt
  have ltib := xib.lt
  go_wp2_with fail
  clear ltia
  clear ltib
  clear pia pib
  have hb := ((Below.refl w4.heap.size w4).alloc (Nat.le_refl _) (.cells #[.bool bx1, .slice ax1 kx1 cx1, .bool dx1, .slice ex1 lx1 mx1] 26))
  have xc : Bk _ w4.heap.size #[.bool bx1, .slice ax1 kx1 cx1, .bool dx1, .slice ex1 lx1 mx1] 26 := (Bk.new w4 #[.bool bx1, .slice ax1 kx1 cx1, .bool dx1, .slice ex1 lx1 mx1] 26)
  replace xia := xia.on hb
  replace xib := xib.on hb
  replace ia := ia.on hb
  replace ib := ib.on hb
  replace fc := fc.on hb
  replace hB := hB.trans (hb.mono hB.size)
  clear hb
  obtain ⟨Wc, hWc⟩ : ∃ W, W = (w4.alloc (.cells #[.bool bx1, .slice ax1 kx1 cx1, .bool dx1, .slice ex1 lx1 mx1] 26)) := ⟨_, rfl⟩
  rw [← hWc] at hB xia xib xc ia ib fc ⊢
  clear hWc
  refine (HP1.out _ _ ia).mono ?_
  rintro e w5 ⟨⟨v, rfl, fd⟩, hb⟩
  obtain ⟨bx2, ax2, kx2, cx2, dx2, ex2, lx2, mx2, rfl⟩ := fd.opened
  replace xia := xia.on hb
  replace xib := xib.on hb
  replace xc := xc.on hb
  replace ia := ia.on hb
  replace ib := ib.on hb
  replace fc := fc.on hb
  have hz5 := hb.size
  try simp at hz5
  replace hB := hB.trans (hb.mono hB.size)
  clear hb
  have pia := xia.all4
  have pib := xib.all4
  have pc := xc.all4
  have ltia := xia.lt
  have ltib := xib.lt
  have ltc := xc.lt
  go_wp2_with fail
  clear ltia
  clear ltib
  clear ltc
  clear pia pib pc
  have hb := ((Below.refl w5.heap.size w5).alloc (Nat.le_refl _) (.cells #[.bool bx2, .slice ax2 kx2 cx2, .bool dx2, .slice ex2 lx2 mx2] 26))
  have xd : Bk _ w5.heap.size #[.bool bx2, .slice ax2 kx2 cx2, .bool dx2, .slice ex2 lx2 mx2] 26 := (Bk.new w5 #[.bool bx2, .slice ax2 kx2 cx2, .bool dx2, .slice ex2 lx2 mx2] 26)
  replace xia := xia.on hb
  replace xib := xib.on hb
  replace xc := xc.on hb
  replace ia := ia.on hb
  replace ib := ib.on hb
  replace fc := fc.on hb
  replace fd := fd.on hb
  replace hB := hB.trans (hb.mono hB.size)
  clear hb
  obtain ⟨Wd, hWd⟩ : ∃ W, W = (w5.alloc (.cells #[.bool bx2, .slice ax2 kx2 cx2, .bool dx2, .slice ex2 lx2 mx2] 26)) := ⟨_, rfl⟩
  rw [← hWd] at hB xia xib xc xd ia ib fc fd ⊢
  clear hWd
  have qc := xc.lt
  have qd := xd.lt
  have qia := xia.lt
  obtain ⟨gc0, gc1, gc2, gc3⟩ := xc.cells4
  obtain ⟨gd0, gd1, gd2, gd3⟩ := xd.cells4
  obtain ⟨gia0, gia1, gia2, gia3⟩ := xia.cells4
  refine wp_region_noPanic ?_
  refine wp_region_held_drew (S := (fun w' => (w'.cell? ⟨w4.heap.size, 0, none⟩ = some (.bool bx1) ∧ w'.cell? ⟨w4.heap.size, 1, none⟩ = some (.slice ax1 kx1 cx1) ∧ w'.cell? ⟨w4.heap.size, 2, none⟩ = some (.bool dx1) ∧ w'.cell? ⟨w4.heap.size, 3, none⟩ = some (.slice ex1 lx1 mx1)) ∧ (w'.cell? ⟨w5.heap.size, 0, none⟩ = some (.bool bx2) ∧ w'.cell? ⟨w5.heap.size, 1, none⟩ = some (.slice ax2 kx2 cx2) ∧ w'.cell? ⟨w5.heap.size, 2, none⟩ = some (.bool dx2) ∧ w'.cell? ⟨w5.heap.size, 3, none⟩ = some (.slice ex2 lx2 mx2)) ∧ w'.cell? ⟨w.heap.size, 0, none⟩ = some (.bool bia) ∧ w'.cell? ⟨w.heap.size, 1, none⟩ = some (.slice aia kia cia) ∧ w'.cell? ⟨w.heap.size, 2, none⟩ = some (.bool dia) ∧ w'.cell? ⟨w.heap.size, 3, none⟩ = some (.slice eia lia mia))) (by kernel_rfl) ⟨⟨gc0, gc1, gc2, gc3⟩, ⟨gd0, gd1, gd2, gd3⟩, ⟨gia0, gia1, gia2, gia3⟩⟩ (fun hR0 => ?_)
  change wpAnyH _ _ _ _ _ 18 #[false, false, false, false, false, false, false, false, false, false, false, false, false, false, false, false, false, false] _ _
  clear gc0 gc1 gc2 gc3 gd0 gd1 gd2 gd3 gia0 gia1 gia2 gia3
  refine tk (i := 0) (v := ?_) rfl (by kernel_rfl) (fun _ _ _ h => h) (by rfl) ?_ (by assumption) ?_
  rotate_left 1
  · (intro w hSw; (try dsimp only at hSw); go_simp <;> (with_reducible rfl))
  (try simp only [Act.put, List.setIfInBounds_toArray, List.set])
  refine tk (i := 1) (v := ?_) rfl (by kernel_rfl) (fun _ _ _ h => h) (by rfl) ?_ (by assumption) ?_
  rotate_left 1
  · (intro w hSw; (try dsimp only at hSw); go_simp <;> (with_reducible rfl))
  (try simp only [Act.put, List.setIfInBounds_toArray, List.set])
  refine tk (i := 2) (v := ?_) rfl (by kernel_rfl) (fun _ _ _ h => h) (by rfl) ?_ (by assumption) ?_
  rotate_left 1
  · (intro w hSw; (try dsimp only at hSw); go_simp <;> (with_reducible rfl))
  (try simp only [Act.put, List.setIfInBounds_toArray, List.set])
  refine tk (i := 3) (v := ?_) rfl (by kernel_rfl) (fun _ _ _ h => h) (by rfl) ?_ (by assumption) ?_
  rotate_left 1
  · (intro w hSw; (try dsimp only at hSw); go_simp <;> (with_reducible rfl))
  (try simp only [Act.put, List.setIfInBounds_toArray, List.set])
  refine tk (i := 4) (v := ?_) rfl (by kernel_rfl) (fun _ _ _ h => h) (by rfl) ?_ (by assumption) ?_
  rotate_left 1
  · (intro w hSw; (try dsimp only at hSw); go_simp <;> (with_reducible rfl))
  (try simp only [Act.put, List.setIfInBounds_toArray, List.set])
  refine tk (i := 5) (v := ?_) rfl (by kernel_rfl) (fun _ _ _ h => h) (by rfl) ?_ (by assumption) ?_
  rotate_left 1
  · (intro w hSw; (try dsimp only at hSw); go_simp <;> (with_reducible rfl))
  (try simp only [Act.put, List.setIfInBounds_toArray, List.set])
  refine tk (i := 6) (v := ?_) rfl (by kernel_rfl) (fun _ _ _ h => h) (by rfl) ?_ (by assumption) ?_
  rotate_left 1
  · (intro w hSw; (try dsimp only at hSw); go_simp <;> (with_reducible rfl))
  (try simp only [Act.put, List.setIfInBounds_toArray, List.set])
  refine tk (i := 7) (v := ?_) rfl (by kernel_rfl) (fun _ _ _ h => h) (by rfl) ?_ (by assumption) ?_
  rotate_left 1
  · (intro w hSw; (try dsimp only at hSw); go_simp <;> (with_reducible rfl))
  (try simp only [Act.put, List.setIfInBounds_toArray, List.set])
  refine rd1 (i := 8) (by kernel_rfl) rfl (fun K hK => ?_)
  go_simp
  go_at_call 23; have hBd := hB.drew; refine (H1.out _).mono ?_; rintro e w6 ⟨⟨v1, rfl, g1⟩, hb⟩; replace hb := (Below.refl Wd.heap.size Wd).drew.trans hb; replace xia := xia.on hb; replace xib := xib.on hb; replace xc := xc.on hb; replace xd := xd.on hb; replace ia := ia.on hb; replace ib := ib.on hb; replace fc := fc.on hb; replace fd := fd.on hb; replace hB := hB.trans (hb.mono hB.size); have hz6 := hb.size
  (try go_wp2_with fail)
  refine hK.out _ _ (⟨keep4 hb qc hR0.1, keep4 hb qd hR0.2.1, keep4 hb qia hR0.2.2⟩) (fun hR1 => ?_)
  clear hK K hR0
  (first | ((fail_if_success (unfold Act.put)); (try simp only [List.setIfInBounds_toArray, List.set])) | (try simp only [Act.put, List.setIfInBounds_toArray, List.set]))
  replace qc := Nat.lt_of_lt_of_le qc hz6
  replace qd := Nat.lt_of_lt_of_le qd hz6
  replace qia := Nat.lt_of_lt_of_le qia hz6
  clear hb hBd
  refine rd1 (i := 9) (by kernel_rfl) rfl (fun K hK => ?_)
  go_simp
  go_at_call 43; have hBd := hB; refine (HE1.out _ _ _ fc g1).mono ?_; rintro e w7 ⟨rfl, hb⟩; replace xia := xia.on hb; replace xib := xib.on hb; replace xc := xc.on hb; replace xd := xd.on hb; replace ia := ia.on hb; replace ib := ib.on hb; replace fc := fc.on hb; replace fd := fd.on hb; replace g1 := g1.on hb; replace hB := hB.trans (hb.mono hB.size); have hz7 := hb.size
  (try go_wp2_with fail)
  refine hK.out _ _ (⟨keep4 hb qc hR1.1, keep4 hb qd hR1.2.1, keep4 hb qia hR1.2.2⟩) (fun hR2 => ?_)
  clear hK K hR1
  (first | ((fail_if_success (unfold Act.put)); (try simp only [List.setIfInBounds_toArray, List.set])) | (try simp only [Act.put, List.setIfInBounds_toArray, List.set]))
  replace qc := Nat.lt_of_lt_of_le qc hz7
  replace qd := Nat.lt_of_lt_of_le qd hz7
  replace qia := Nat.lt_of_lt_of_le qia hz7
  clear hb hBd
  refine tk (i := 10) (v := ?_) rfl (by kernel_rfl) (fun _ _ _ h => h) (by rfl) ?_ (by assumption) ?_
  rotate_left 1
  · (intro w hSw; (try dsimp only at hSw); go_simp <;> (with_reducible rfl))
  (try simp only [Act.put, List.setIfInBounds_toArray, List.set])
  refine tk (i := 11) (v := ?_) rfl (by kernel_rfl) (fun _ _ _ h => h) (by rfl) ?_ (by assumption) ?_
  rotate_left 1
  · (intro w hSw; (try dsimp only at hSw); go_simp <;> (with_reducible rfl))
  (try simp only [Act.put, List.setIfInBounds_toArray, List.set])
  refine tk (i := 12) (v := ?_) rfl (by kernel_rfl) (fun _ _ _ h => h) (by rfl) ?_ (by assumption) ?_
  rotate_left 1
  · (intro w hSw; (try dsimp only at hSw); go_simp <;> (with_reducible rfl))
  (try simp only [Act.put, List.setIfInBounds_toArray, List.set])
  refine tk (i := 13) (v := ?_) rfl (by kernel_rfl) (fun _ _ _ h => h) (by rfl) ?_ (by assumption) ?_
  rotate_left 1
  · (intro w hSw; (try dsimp only at hSw); go_simp <;> (with_reducible rfl))
  (try simp only [Act.put, List.setIfInBounds_toArray, List.set])
  refine tk (i := 14) (v := ?_) rfl (by kernel_rfl) (fun _ _ _ h => h) (by rfl) ?_ (by assumption) ?_
  rotate_left 1
  · (intro w hSw; (try dsimp only at hSw); go_simp <;> (with_reducible rfl))
  (try simp only [Act.put, List.setIfInBounds_toArray, List.set])
  refine rd1 (i := 15) (by kernel_rfl) rfl (fun K hK => ?_)
  go_simp
  go_at_call 43; have hBd := hB; refine (HEa.out _ _ _ fd ia).mono ?_; rintro e w8 ⟨rfl, hb⟩; replace xia := xia.on hb; replace xib := xib.on hb; replace xc := xc.on hb; replace xd := xd.on hb; replace ia := ia.on hb; replace ib := ib.on hb; replace fc := fc.on hb; replace fd := fd.on hb; replace g1 := g1.on hb; replace hB := hB.trans (hb.mono hB.size); have hz8 := hb.size
  (try go_wp2_with fail)
  refine hK.out _ _ (⟨keep4 hb qc hR2.1, keep4 hb qd hR2.2.1, keep4 hb qia hR2.2.2⟩) (fun hR3 => ?_)
  clear hK K hR2
  (first | ((fail_if_success (unfold Act.put)); (try simp only [List.setIfInBounds_toArray, List.set])) | (try simp only [Act.put, List.setIfInBounds_toArray, List.set]))
  replace qc := Nat.lt_of_lt_of_le qc hz8
  replace qd := Nat.lt_of_lt_of_le qd hz8
  replace qia := Nat.lt_of_lt_of_le qia hz8
  clear hb hBd
  refine tk (i := 16) (v := ?_) rfl (by kernel_rfl) (fun _ _ _ h => h) (by rfl) ?_ (by assumption) ?_
  rotate_left 1
  · (intro w hSw; (try dsimp only at hSw); go_simp <;> (with_reducible rfl))
  (try simp only [Act.put, List.setIfInBounds_toArray, List.set])
  refine tk (i := 17) (v := ?_) rfl (by kernel_rfl) (fun _ _ _ h => h) (by rfl) ?_ (by assumption) ?_
  rotate_left 1
  · (intro w hSw; (try dsimp only at hSw); go_simp <;> (with_reducible rfl))
  (try simp only [Act.put, List.setIfInBounds_toArray, List.set])
  refine wpAnyH_done (by kernel_rfl) ?_ _
  refine NoPanic.normal ?_
  clear hR3
  clear qc qd qia
  clear g1
  clear fc
  clear fd
  clear xc
  clear xd
  have hk := (num_len (fra_nums ia).2.2.1).1
  have hkia : ((kia : Int) == 0) = false := by
    rw [beq_eq_false_iff_ne]; intro e; refine ha ((Fq.num_zero a).1 ?_)
    have : dig a.num.natAbs = [] := List.eq_nil_of_length_eq_zero (by omega)
    have := (dig_nil_iff _).1 this; omega
  clear hk
  have hk := (num_len (fra_nums ib).2.2.1).1
  rw [hb, show (0 : Rat).num.natAbs = 0 from rfl, dig_zero, List.length_nil] at hk
  subst hk
  have pia := xia.all4
  have pib := xib.all4
  have ltia := xia.lt
  have ltib := xib.lt
  go_wp2_with fail
  clear ltia
  clear ltib
  clear pia pib
  refine (H0.out _).mono ?_
  rintro e w9 ⟨⟨v0, rfl, g0⟩, hb⟩
  replace xia := xia.on hb
  replace xib := xib.on hb
  replace ia := ia.on hb
  replace ib := ib.on hb
  have hz9 := hb.size
  try simp at hz9
  replace hB := hB.trans (hb.mono hB.size)
  clear hb
  go_wp2_with fail
  refine (HZ.out _ _ g0).mono ?_
  rintro e w10 ⟨⟨v, rfl, fz⟩, hb⟩
  obtain ⟨bx9, ax9, kx9, cx9, dx9, ex9, lx9, mx9, rfl⟩ := fz.opened
  clear fz
  replace xia := xia.on hb
  replace xib := xib.on hb
  replace ia := ia.on hb
  replace ib := ib.on hb
  replace g0 := g0.on hb
  have hz10 := hb.size
  try simp at hz10
  replace hB := hB.trans (hb.mono hB.size)
  clear hb
  have pia := xia.all4
  have pib := xib.all4
  have ltia := xia.lt
  have ltib := xib.lt
  go_wp2
  go_ret
  exact ⟨by simp; omega, hB.alloc hB.size _⟩
set_option maxRecDepth 100000 in
set_option maxHeartbeats 8000000 in
theorem FracPowers_bn (a b : Rat) (sa : Fz 8 8 a) (sb : Fz 8 8 b) (bia : Bool) (aia : Option Addr) (kia cia : Nat) (dia : Bool) (eia : Option Addr) (lia mia : Nat) (bib : Bool) (aib : Option Addr) (kib cib : Nat) (dib : Bool) (eib : Option Addr) (lib mib : Nat) (m n : Int) (ha : a ≠ 0) (hb : b = 0) (hs : m.tmod 6 < 0) (w : World) (ia : Fra w (.agg #[.bool bia, .slice aia kia cia, .bool dia, .slice eia lia mia]) a) (ib : Fra w (.agg #[.bool bib, .slice aib kib cib, .bool dib, .slice eib lib mib]) b) :
    Calls Tryz.prog 13 #[.agg #[.bool bia, .slice aia kia cia, .bool dia, .slice eia lia mia], .agg #[.bool bib, .slice aib kib cib, .bool dib, .slice eib lib mib], .int .i64 m, .int .i64 n] w fun e w' => e = .returned (.bool true) ∧ Below w.heap.size w w' := by
  obtain ⟨M, hM⟩ : ∃ M, M = m.tmod 6 := ⟨_, rfl⟩
  obtain ⟨N, hN⟩ : ∃ N, N = n.tmod 6 := ⟨_, rfl⟩
  rw [← hM] at hs
  have hM1 := rem6 m
  have hN1 := rem6 n
  rw [← hM] at hM1
  rw [← hN] at hN1
  have eM : m.tmod 6 = M := hM.symm
  have eN : n.tmod 6 = N := hN.symm
  have eS : IntKind.i64.wrap (M + N) = M + N := by rw [IntKind.wrap_i64]; omega
  have eU : IntKind.i64.wrap (-M) = -M := by rw [IntKind.wrap_i64]; omega
  have hq : Fz 256 256 a := sa.mono (by decide) (by decide)
  have hqb : Fz 256 256 b := sb.mono (by decide) (by decide)
  have HP0 := Lib.hid (fun va W (h : Fra W va a) => frPow_lit va a 1 0 (Rat.zpow_zero a) (by decide) (by decide) (.inr (by decide)) hq (Fz.one.mono (by decide) (by decide)) W h)
  have HP1 := Lib.hid (fun va W (h : Fra W va a) => frPow_lit va a a 1 (Rat.zpow_one a) (by decide) (by decide) (.inr (by decide)) hq hq W h)
  have HE1 := Lib.hid (fun va vb W (h : Fra W va 1) (g : Fra W vb 1) => law2_equal_any va vb 1 (Fz.one.mono (by decide) (by decide)) W h g)
  have HEa := Lib.hid (fun va vb W (h : Fra W va a) (g : Fra W vb a) => law2_equal_any va vb a hq W h g)
  have H1 := Lib.hid (fun W => frFromInt_lit 1 1 (by decide +kernel) (by decide) (by decide) W)
  have H0 := Lib.hid (fun W => frFromInt_lit 0 0 (by decide +kernel) (by decide) (by decide) W)
  have HZ := Lib.hid (fun va W (h : Fra W va 0) => frPow_lit0 va M hs (by omega) W h)
  have hs2 : M < 0 := hs
  clear hq hqb hM hN hM1 hN1
  have hB := Below.refl w.heap.size w
  obtain ⟨al, xia, hN⟩ := mk hB #[.bool bia, .slice aia kia cia, .bool dia, .slice eia lia mia] 26
  replace ia := ia.on al
  replace ib := ib.on al
  replace hB := hN
  clear al hN
  try simp only [World.size_alloc] at xia
  obtain ⟨al, xib, hN⟩ := mk hB #[.bool bib, .slice aib kib cib, .bool dib, .slice eib lib mib] 26
  replace xia := xia.on al
  replace ia := ia.on al
  replace ib := ib.on al
  replace hB := hN
  clear al hN
  try simp only [World.size_alloc] at xib
  go_enter Tryz.func13, Tryz.ntmps13
  go_wp2_with fail
  refine (law2_awake_any _).mono ?_
  rintro e w1 ⟨rfl, hb⟩
  replace xia := xia.on hb
  replace xib := xib.on hb
  replace ia := ia.on hb
  replace ib := ib.on hb
  have hz1 := hb.size
  try simp at hz1
  replace hB := hB.trans (hb.mono hB.size)
  clear hb
  have pia := xia.all4
  have pib := xib.all4
  have ltia := xia.lt
  have ltib := xib.lt
  go_wp2_with fail
  clear ltia
  clear ltib
  clear pia pib
  have hb := ((Below.refl w1.heap.size w1).alloc (Nat.le_refl _) (.cells #[.bool bia, .slice aia kia cia, .bool dia, .slice eia lia mia, .bool bib, .slice aib kib cib, .bool dib, .slice eib lib mib] 26))
  have xrow : Bk _ w1.heap.size #[.bool bia, .slice aia kia cia, .bool dia, .slice eia lia mia, .bool bib, .slice aib kib cib, .bool dib, .slice eib lib mib] 26 := (Bk.new w1 #[.bool bia, .slice aia kia cia, .bool dia, .slice eia lia mia, .bool bib, .slice aib kib cib, .bool dib, .slice eib lib mib] 26)
  replace xia := xia.on hb
  replace xib := xib.on hb
  replace ia := ia.on hb
  replace ib := ib.on hb
  replace hB := hB.trans (hb.mono hB.size)
  clear hb
  have rw0 := xrow.cell 0
  have rw1 := xrow.cell 1
  have rw2 := xrow.cell 2
  have rw3 := xrow.cell 3
  have rw4 := xrow.cell 4
  have rw5 := xrow.cell 5
  have rw6 := xrow.cell 6
  have rw7 := xrow.cell 7
  simp only [List.getElem?_toArray, List.getElem?_cons_zero, List.getElem?_cons_succ] at rw0 rw1 rw2 rw3 rw4 rw5 rw6 rw7
  refine (usable2_fra w1.heap.size a b bia aia kia cia dia eia lia mia bib aib kib cib dib eib lib mib _ rw0 rw1 rw2 rw3 rw4 rw5 rw6 rw7 ia ib (sa.mono (by decide) (by decide)) (sb.mono (by decide) (by decide))).mono ?_
  rintro e w2 ⟨rfl, hb⟩
  clear xrow rw0 rw1 rw2 rw3 rw4 rw5 rw6 rw7
  replace xia := xia.on hb
  replace xib := xib.on hb
  replace ia := ia.on hb
  replace ib := ib.on hb
  replace hB := hB.trans (hb.mono hB.size)
  clear hb
  have pia := xia.all4
  have pib := xib.all4
  have ltia := xia.lt
  have ltib := xib.lt
  go_wp2_with fail
  clear ltia
  clear ltib
  clear pia pib
  have hb := ((Below.refl w2.heap.size w2).alloc (Nat.le_refl _) (.cells #[.bool bia, .slice aia kia cia, .bool dia, .slice eia lia mia, .bool bib, .slice aib kib cib, .bool dib, .slice eib lib mib] 26))
  have xrow : Bk _ w2.heap.size #[.bool bia, .slice aia kia cia, .bool dia, .slice eia lia mia, .bool bib, .slice aib kib cib, .bool dib, .slice eib lib mib] 26 := (Bk.new w2 #[.bool bia, .slice aia kia cia, .bool dia, .slice eia lia mia, .bool bib, .slice aib kib cib, .bool dib, .slice eib lib mib] 26)
  replace xia := xia.on hb
  replace xib := xib.on hb
  replace ia := ia.on hb
  replace ib := ib.on hb
  replace hB := hB.trans (hb.mono hB.size)
  clear hb
  have rw0 := xrow.cell 0
  have rw1 := xrow.cell 1
  have rw2 := xrow.cell 2
  have rw3 := xrow.cell 3
  have rw4 := xrow.cell 4
  have rw5 := xrow.cell 5
  have rw6 := xrow.cell 6
  have rw7 := xrow.cell 7
  simp only [List.getElem?_toArray, List.getElem?_cons_zero, List.getElem?_cons_succ] at rw0 rw1 rw2 rw3 rw4 rw5 rw6 rw7
  refine (short2_fra 8 w2.heap.size a b bia aia kia cia dia eia lia mia bib aib kib cib dib eib lib mib _ rw0 rw1 rw2 rw3 rw4 rw5 rw6 rw7 ia ib sa sb).mono ?_
  rintro e w3 ⟨rfl, hb⟩
  clear xrow rw0 rw1 rw2 rw3 rw4 rw5 rw6 rw7
  replace xia := xia.on hb
  replace xib := xib.on hb
  replace ia := ia.on hb
  replace ib := ib.on hb
  replace hB := hB.trans (hb.mono hB.size)
  clear hb
  have pia := xia.all4
  have pib := xib.all4
  have ltia := xia.lt
  have ltib := xib.lt
  go_wp2_with fail
  clear ltia
  clear ltib
  clear pia pib
  refine (HP0.out _ _ ia).mono ?_
  rintro e w4 ⟨⟨v, rfl, fc⟩, hb⟩
  obtain ⟨bx1, ax1, kx1, cx1, dx1, ex1, lx1, mx1, rfl⟩ := fc.opened
  replace xia := xia.on hb
  replace xib := xib.on hb
  replace ia := ia.on hb
  replace ib := ib.on hb
  have hz4 := hb.size
  try simp at hz4
  replace hB := hB.trans (hb.mono hB.size)
  clear hb
  have pia := xia.all4
  have pib := xib.all4
  have ltia := xia.lt
  have ltib := xib.lt
  go_wp2_with fail
  clear ltia
  clear ltib
  clear pia pib
  have hb := ((Below.refl w4.heap.size w4).alloc (Nat.le_refl _) (.cells #[.bool bx1, .slice ax1 kx1 cx1, .bool dx1, .slice ex1 lx1 mx1] 26))
  have xc : Bk _ w4.heap.size #[.bool bx1, .slice ax1 kx1 cx1, .bool dx1, .slice ex1 lx1 mx1] 26 := (Bk.new w4 #[.bool bx1, .slice ax1 kx1 cx1, .bool dx1, .slice ex1 lx1 mx1] 26)
  replace xia := xia.on hb
  replace xib := xib.on hb
  replace ia := ia.on hb
  replace ib := ib.on hb
  replace fc := fc.on hb
  replace hB := hB.trans (hb.mono hB.size)
  clear hb
  obtain ⟨Wc, hWc⟩ : ∃ W, W = (w4.alloc (.cells #[.bool bx1, .slice ax1 kx1 cx1, .bool dx1, .slice ex1 lx1 mx1] 26)) := ⟨_, rfl⟩
  rw [← hWc] at hB xia xib xc ia ib fc ⊢
  clear hWc
  refine (HP1.out _ _ ia).mono ?_
  rintro e w5 ⟨⟨v, rfl, fd⟩, hb⟩
  obtain ⟨bx2, ax2, kx2, cx2, dx2, ex2, lx2, mx2, rfl⟩ := fd.opened
  replace xia := xia.on hb
  replace xib := xib.on hb
  replace xc := xc.on hb
  replace ia := ia.on hb
  replace ib := ib.on hb
  replace fc := fc.on hb
  have hz5 := hb.size
  try simp at hz5
  replace hB := hB.trans (hb.mono hB.size)
  clear hb
  have pia := xia.all4
  have pib := xib.all4
  have pc := xc.all4
  have ltia := xia.lt
  have ltib := xib.lt
  have ltc := xc.lt
  go_wp2_with fail
  clear ltia
  clear ltib
  clear ltc
  clear pia pib pc
  have hb := ((Below.refl w5.heap.size w5).alloc (Nat.le_refl _) (.cells #[.bool bx2, .slice ax2 kx2 cx2, .bool dx2, .slice ex2 lx2 mx2] 26))
  have xd : Bk _ w5.heap.size #[.bool bx2, .slice ax2 kx2 cx2, .bool dx2, .slice ex2 lx2 mx2] 26 := (Bk.new w5 #[.bool bx2, .slice ax2 kx2 cx2, .bool dx2, .slice ex2 lx2 mx2] 26)
  replace xia := xia.on hb
  replace xib := xib.on hb
  replace xc := xc.on hb
  replace ia := ia.on hb
  replace ib := ib.on hb
  replace fc := fc.on hb
  replace fd := fd.on hb
  replace hB := hB.trans (hb.mono hB.size)
  clear hb
  obtain ⟨Wd, hWd⟩ : ∃ W, W = (w5.alloc (.cells #[.bool bx2, .slice ax2 kx2 cx2, .bool dx2, .slice ex2 lx2 mx2] 26)) := ⟨_, rfl⟩
  rw [← hWd] at hB xia xib xc xd ia ib fc fd ⊢
  clear hWd
  have qc := xc.lt
  have qd := xd.lt
  have qia := xia.lt
  obtain ⟨gc0, gc1, gc2, gc3⟩ := xc.cells4
  obtain ⟨gd0, gd1, gd2, gd3⟩ := xd.cells4
  obtain ⟨gia0, gia1, gia2, gia3⟩ := xia.cells4
  refine wp_region_noPanic ?_
  refine wp_region_held_drew (S := (fun w' => (w'.cell? ⟨w4.heap.size, 0, none⟩ = some (.bool bx1) ∧ w'.cell? ⟨w4.heap.size, 1, none⟩ = some (.slice ax1 kx1 cx1) ∧ w'.cell? ⟨w4.heap.size, 2, none⟩ = some (.bool dx1) ∧ w'.cell? ⟨w4.heap.size, 3, none⟩ = some (.slice ex1 lx1 mx1)) ∧ (w'.cell? ⟨w5.heap.size, 0, none⟩ = some (.bool bx2) ∧ w'.cell? ⟨w5.heap.size, 1, none⟩ = some (.slice ax2 kx2 cx2) ∧ w'.cell? ⟨w5.heap.size, 2, none⟩ = some (.bool dx2) ∧ w'.cell? ⟨w5.heap.size, 3, none⟩ = some (.slice ex2 lx2 mx2)) ∧ w'.cell? ⟨w.heap.size, 0, none⟩ = some (.bool bia) ∧ w'.cell? ⟨w.heap.size, 1, none⟩ = some (.slice aia kia cia) ∧ w'.cell? ⟨w.heap.size, 2, none⟩ = some (.bool dia) ∧ w'.cell? ⟨w.heap.size, 3, none⟩ = some (.slice eia lia mia))) (by kernel_rfl) ⟨⟨gc0, gc1, gc2, gc3⟩, ⟨gd0, gd1, gd2, gd3⟩, ⟨gia0, gia1, gia2, gia3⟩⟩ (fun hR0 => ?_)
  change wpAnyH _ _ _ _ _ 18 #[false, false, false, false, false, false, false, false, false, false, false, false, false, false, false, false, false, false] _ _
  clear gc0 gc1 gc2 gc3 gd0 gd1 gd2 gd3 gia0 gia1 gia2 gia3
  refine tk (i := 0) (v := ?_) rfl (by kernel_rfl) (fun _ _ _ h => h) (by rfl) ?_ (by assumption) ?_
  rotate_left 1
  · (intro w hSw; (try dsimp only at hSw); go_simp <;> (with_reducible rfl))
  (try simp only [Act.put, List.setIfInBounds_toArray, List.set])
  refine tk (i := 1) (v := ?_) rfl (by kernel_rfl) (fun _ _ _ h => h) (by rfl) ?_ (by assumption) ?_
  rotate_left 1
  · (intro w hSw; (try dsimp only at hSw); go_simp <;> (with_reducible rfl))
  (try simp only [Act.put, List.setIfInBounds_toArray, List.set])
  refine tk (i := 2) (v := ?_) rfl (by kernel_rfl) (fun _ _ _ h => h) (by rfl) ?_ (by assumption) ?_
  rotate_left 1
  · (intro w hSw; (try dsimp only at hSw); go_simp <;> (with_reducible rfl))
  (try simp only [Act.put, List.setIfInBounds_toArray, List.set])
  refine tk (i := 3) (v := ?_) rfl (by kernel_rfl) (fun _ _ _ h => h) (by rfl) ?_ (by assumption) ?_
  rotate_left 1
  · (intro w hSw; (try dsimp only at hSw); go_simp <;> (with_reducible rfl))
  (try simp only [Act.put, List.setIfInBounds_toArray, List.set])
  refine tk (i := 4) (v := ?_) rfl (by kernel_rfl) (fun _ _ _ h => h) (by rfl) ?_ (by assumption) ?_
  rotate_left 1
  · (intro w hSw; (try dsimp only at hSw); go_simp <;> (with_reducible rfl))
  (try simp only [Act.put, List.setIfInBounds_toArray, List.set])
  refine tk (i := 5) (v := ?_) rfl (by kernel_rfl) (fun _ _ _ h => h) (by rfl) ?_ (by assumption) ?_
  rotate_left 1
  · (intro w hSw; (try dsimp only at hSw); go_simp <;> (with_reducible rfl))
  (try simp only [Act.put, List.setIfInBounds_toArray, List.set])
  refine tk (i := 6) (v := ?_) rfl (by kernel_rfl) (fun _ _ _ h => h) (by rfl) ?_ (by assumption) ?_
  rotate_left 1
  · (intro w hSw; (try dsimp only at hSw); go_simp <;> (with_reducible rfl))
  (try simp only [Act.put, List.setIfInBounds_toArray, List.set])
  refine tk (i := 7) (v := ?_) rfl (by kernel_rfl) (fun _ _ _ h => h) (by rfl) ?_ (by assumption) ?_
  rotate_left 1
  · (intro w hSw; (try dsimp only at hSw); go_simp <;> (with_reducible rfl))
  (try simp only [Act.put, List.setIfInBounds_toArray, List.set])
  refine rd1 (i := 8) (by kernel_rfl) rfl (fun K hK => ?_)
  go_simp
  go_at_call 23; have hBd := hB.drew; refine (H1.out _).mono ?_; rintro e w6 ⟨⟨v1, rfl, g1⟩, hb⟩; replace hb := (Below.refl Wd.heap.size Wd).drew.trans hb; replace xia := xia.on hb; replace xib := xib.on hb; replace xc := xc.on hb; replace xd := xd.on hb; replace ia := ia.on hb; replace ib := ib.on hb; replace fc := fc.on hb; replace fd := fd.on hb; replace hB := hB.trans (hb.mono hB.size); have hz6 := hb.size
  (try go_wp2_with fail)
  refine hK.out _ _ (⟨keep4 hb qc hR0.1, keep4 hb qd hR0.2.1, keep4 hb qia hR0.2.2⟩) (fun hR1 => ?_)
  clear hK K hR0
  (first | ((fail_if_success (unfold Act.put)); (try simp only [List.setIfInBounds_toArray, List.set])) | (try simp only [Act.put, List.setIfInBounds_toArray, List.set]))
  replace qc := Nat.lt_of_lt_of_le qc hz6
  replace qd := Nat.lt_of_lt_of_le qd hz6
  replace qia := Nat.lt_of_lt_of_le qia hz6
  clear hb hBd
  refine rd1 (i := 9) (by kernel_rfl) rfl (fun K hK => ?_)
  go_simp
  go_at_call 43; have hBd := hB; refine (HE1.out _ _ _ fc g1).mono ?_; rintro e w7 ⟨rfl, hb⟩; replace xia := xia.on hb; replace xib := xib.on hb; replace xc := xc.on hb; replace xd := xd.on hb; replace ia := ia.on hb; replace ib := ib.on hb; replace fc := fc.on hb; replace fd := fd.on hb; replace g1 := g1.on hb; replace hB := hB.trans (hb.mono hB.size); have hz7 := hb.size
  (try go_wp2_with fail)
  refine hK.out _ _ (⟨keep4 hb qc hR1.1, keep4 hb qd hR1.2.1, keep4 hb qia hR1.2.2⟩) (fun hR2 => ?_)
  clear hK K hR1
  (first | ((fail_if_success (unfold Act.put)); (try simp only [List.setIfInBounds_toArray, List.set])) | (try simp only [Act.put, List.setIfInBounds_toArray, List.set]))
  replace qc := Nat.lt_of_lt_of_le qc hz7
  replace qd := Nat.lt_of_lt_of_le qd hz7
  replace qia := Nat.lt_of_lt_of_le qia hz7
  clear hb hBd
  refine tk (i := 10) (v := ?_) rfl (by kernel_rfl) (fun _ _ _ h => h) (by rfl) ?_ (by assumption) ?_
  rotate_left 1
  · (intro w hSw; (try dsimp only at hSw); go_simp <;> (with_reducible rfl))
  (try simp only [Act.put, List.setIfInBounds_toArray, List.set])
  refine tk (i := 11) (v := ?_) rfl (by kernel_rfl) (fun _ _ _ h => h) (by rfl) ?_ (by assumption) ?_
  rotate_left 1
  · (intro w hSw; (try dsimp only at hSw); go_simp <;> (with_reducible rfl))
  (try simp only [Act.put, List.setIfInBounds_toArray, List.set])
  refine tk (i := 12) (v := ?_) rfl (by kernel_rfl) (fun _ _ _ h => h) (by rfl) ?_ (by assumption) ?_
  rotate_left 1
  · (intro w hSw; (try dsimp only at hSw); go_simp <;> (with_reducible rfl))
  (try simp only [Act.put, List.setIfInBounds_toArray, List.set])
  refine tk (i := 13) (v := ?_) rfl (by kernel_rfl) (fun _ _ _ h => h) (by rfl) ?_ (by assumption) ?_
  rotate_left 1
  · (intro w hSw; (try dsimp only at hSw); go_simp <;> (with_reducible rfl))
  (try simp only [Act.put, List.setIfInBounds_toArray, List.set])
  refine tk (i := 14) (v := ?_) rfl (by kernel_rfl) (fun _ _ _ h => h) (by rfl) ?_ (by assumption) ?_
  rotate_left 1
  · (intro w hSw; (try dsimp only at hSw); go_simp <;> (with_reducible rfl))
  (try simp only [Act.put, List.setIfInBounds_toArray, List.set])
  refine rd1 (i := 15) (by kernel_rfl) rfl (fun K hK => ?_)
  go_simp
  go_at_call 43; have hBd := hB; refine (HEa.out _ _ _ fd ia).mono ?_; rintro e w8 ⟨rfl, hb⟩; replace xia := xia.on hb; replace xib := xib.on hb; replace xc := xc.on hb; replace xd := xd.on hb; replace ia := ia.on hb; replace ib := ib.on hb; replace fc := fc.on hb; replace fd := fd.on hb; replace g1 := g1.on hb; replace hB := hB.trans (hb.mono hB.size); have hz8 := hb.size
  (try go_wp2_with fail)
  refine hK.out _ _ (⟨keep4 hb qc hR2.1, keep4 hb qd hR2.2.1, keep4 hb qia hR2.2.2⟩) (fun hR3 => ?_)
  clear hK K hR2
  (first | ((fail_if_success (unfold Act.put)); (try simp only [List.setIfInBounds_toArray, List.set])) | (try simp only [Act.put, List.setIfInBounds_toArray, List.set]))
  replace qc := Nat.lt_of_lt_of_le qc hz8
  replace qd := Nat.lt_of_lt_of_le qd hz8
  replace qia := Nat.lt_of_lt_of_le qia hz8
  clear hb hBd
  refine tk (i := 16) (v := ?_) rfl (by kernel_rfl) (fun _ _ _ h => h) (by rfl) ?_ (by assumption) ?_
  rotate_left 1
  · (intro w hSw; (try dsimp only at hSw); go_simp <;> (with_reducible rfl))
  (try simp only [Act.put, List.setIfInBounds_toArray, List.set])
  refine tk (i := 17) (v := ?_) rfl (by kernel_rfl) (fun _ _ _ h => h) (by rfl) ?_ (by assumption) ?_
  rotate_left 1
  · (intro w hSw; (try dsimp only at hSw); go_simp <;> (with_reducible rfl))
  (try simp only [Act.put, List.setIfInBounds_toArray, List.set])
  refine wpAnyH_done (by kernel_rfl) ?_ _
  refine NoPanic.normal ?_
  clear hR3
  clear qc qd qia
  clear g1
  clear fc
  clear fd
  clear xc
  clear xd
  have hk := (num_len (fra_nums ia).2.2.1).1
  have hkia : ((kia : Int) == 0) = false := by
    rw [beq_eq_false_iff_ne]; intro e; refine ha ((Fq.num_zero a).1 ?_)
    have : dig a.num.natAbs = [] := List.eq_nil_of_length_eq_zero (by omega)
    have := (dig_nil_iff _).1 this; omega
  clear hk
  have hk := (num_len (fra_nums ib).2.2.1).1
  rw [hb, show (0 : Rat).num.natAbs = 0 from rfl, dig_zero, List.length_nil] at hk
  subst hk
  have pia := xia.all4
  have pib := xib.all4
  have ltia := xia.lt
  have ltib := xib.lt
  go_wp2_with fail
  clear ltia
  clear ltib
  clear pia pib
  refine (H0.out _).mono ?_
  rintro e w9 ⟨⟨v0, rfl, g0⟩, hb⟩
  replace xia := xia.on hb
  replace xib := xib.on hb
  replace ia := ia.on hb
  replace ib := ib.on hb
  have hz9 := hb.size
  try simp at hz9
  replace hB := hB.trans (hb.mono hB.size)
  clear hb
  go_wp2_with fail
  refine (HZ.out _ _ g0).mono ?_
  rintro e w10 ⟨rfl, hb⟩
  replace xia := xia.on hb
  replace xib := xib.on hb
  replace ia := ia.on hb
  replace ib := ib.on hb
  replace g0 := g0.on hb
  have hz10 := hb.size
  try simp at hz10
  replace hB := hB.trans (hb.mono hB.size)
  clear hb
  go_wp2
  go_ret
  exact ⟨by simp, hB.alloc hB.size _⟩
theorem FracPowers_core (a b : Rat) (sa : Fz 8 8 a) (sb : Fz 8 8 b) (bia : Bool) (aia : Option Addr) (kia cia : Nat) (dia : Bool) (eia : Option Addr) (lia mia : Nat) (bib : Bool) (aib : Option Addr) (kib cib : Nat) (dib : Bool) (eib : Option Addr) (lib mib : Nat) (m n : Int) (w : World) (ia : Fra w (.agg #[.bool bia, .slice aia kia cia, .bool dia, .slice eia lia mia]) a) (ib : Fra w (.agg #[.bool bib, .slice aib kib cib, .bool dib, .slice eib lib mib]) b) :
    Calls Tryz.prog 13 #[.agg #[.bool bia, .slice aia kia cia, .bool dia, .slice eia lia mia], .agg #[.bool bib, .slice aib kib cib, .bool dib, .slice eib lib mib], .int .i64 m, .int .i64 n] w fun e w' => e = .returned (.bool true) ∧ Below w.heap.size w w' := by
  by_cases ha : a = 0
  · by_cases hs : m.tmod 6 < 0
    · exact FracPowers_an a b sa sb bia aia kia cia dia eia lia mia bib aib kib cib dib eib lib mib m n ha hs w ia ib
    · exact FracPowers_ap a b sa sb bia aia kia cia dia eia lia mia bib aib kib cib dib eib lib mib m n ha (by omega) w ia ib
  · by_cases hb : b = 0
    · by_cases hs : m.tmod 6 < 0
      · exact FracPowers_bn a b sa sb bia aia kia cia dia eia lia mia bib aib kib cib dib eib lib mib m n ha hb hs w ia ib
      · exact FracPowers_bp a b sa sb bia aia kia cia dia eia lia mia bib aib kib cib dib eib lib mib m n ha hb (by omega) w ia ib
    · exact FracPowers_more a b sa sb bia aia kia cia dia eia lia mia bib aib kib cib dib eib lib mib m n ha hb w ia ib
end Go.Proofs.YthlclegajldphaaGreat
