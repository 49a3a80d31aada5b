/- A part of the proofs about fractions. -/
import Derived.Test.YthlclegajldphaaGreatQz1
import Derived.Test.YthlclegajldphaaGreatQz2
import Derived.Test.YthlclegajldphaaGreatQz3
import Derived.Test.YthlclegajldphaaGreatQz4
import Derived.Test.YthlclegajldphaaGreatQz5
import Derived.Test.YthlclegajldphaaGreatQz6
import Derived.Test.YthlclegajldphaaGreatQz7
import Derived.Test.YthlclegajldphaaGreatQz8
import Derived.Test.YthlclegajldphaaGreatQz9
import Derived.Test.YthlclegajldphaaGreatQz10
import Derived.Test.YthlclegajldphaaGreatQz11
import Derived.Test.YthlclegajldphaaGreatQz12
import Derived.Test.YthlclegajldphaaGreatQz13
import Derived.Test.YthlclegajldphaaGreatQz14
import Derived.Test.YthlclegajldphaaGreatQz15
import Derived.Test.YthlclegajldphaaGreatQz16
import Derived.Test.YthlclegajldphaaGreatQz17
import Derived.Test.YthlclegajldphaaGreatQz18
import Derived.Test.YthlclegajldphaaGreatQz19
import Derived.Test.YthlclegajldphaaGreatQz20
import Derived.Test.YthlclegajldphaaGreatQz21
import Derived.Test.YthlclegajldphaaGreatQz22
import Derived.Test.YthlclegajldphaaGreatQz23
import Derived.Test.YthlclegajldphaaGreatQz24
import Derived.Test.YthlclegajldphaaGreatQz25
import Derived.Test.YthlclegajldphaaGreatQz26
import Derived.Test.YthlclegajldphaaGreatQz27
import Derived.Test.YthlclegajldphaaGreatQz28
import Derived.Test.YthlclegajldphaaGreatRows
import Derived.Test.YthlclegajldphaaGreatQNear1
namespace Go.Proofs.YthlclegajldphaaGreat
open Go.RowKit Wh
theorem dig_one : dig 1 = [1] := (dig_one_iff 1).2 rfl
theorem rfac_sz81 {a u : Rat} {neg : Bool} {m : Nat} (ha : Sz 40 a.num) (hv : Sz 40 (u.den : Int)) (hD : 0 < (a.den : Int) * u.num) : Sz 81 (rfac neg (a.num * u.den) (a.den * u.num) m) := by
  have h1 := rfac_le neg (a.num * u.den) (a.den * u.num) m hD
  have h2 : Sz 80 (a.num * u.den) := Sz.mul ha hv
  refine Sz.le (Sz.add h2 ((Sz.small (z := if a.num * u.den < 0 then -1 else 1) (by split <;> decide)).mono (by decide) : Sz 80 _)) ?_
  split <;> omega
theorem even_head {x0 : Nat} {xs : List Nat} {f : Int} (hv : val (x0 :: xs) = f.natAbs) (hf : f % 2 = 0) : x0 % 2 = 0 := by
  have : val (x0 :: xs) = x0 + 65536 * val xs := rfl
  omega
set_option maxRecDepth 100000 in
set_option maxHeartbeats 8000000 in
theorem FracNearest_more (a u : Rat) (sa : Fz 40 40 a) (su : Fz 40 40 u) (bia : Bool) (aia : Option Addr) (kia cia : Nat) (dia : Bool) (eia : Option Addr) (lia mia : Nat) (bib : Bool) (aib : Option Addr) (kib cib : Nat) (dib : Bool) (eib : Option Addr) (lib mib : Nat) (M6 : Int) (md : Int) (hw1 : md.tmod 6 = M6) (m : Nat) (hw2 : IntKind.u8.wrap (1 + M6) = (m : Int)) (hm1 : 1 ≤ m) (hm2 : m ≤ 6) (hu : 0 < u.num) (w : World) (ia : Fra w (.agg #[.bool bia, .slice aia kia cia, .bool dia, .slice eia lia mia]) a) (ib : Fra w (.agg #[.bool bib, .slice aib kib cib, .bool dib, .slice eib lib mib]) u) :
    Calls Tryz.prog 11 #[.agg #[.bool bia, .slice aia kia cia, .bool dia, .slice eia lia mia], .agg #[.bool bib, .slice aib kib cib, .bool dib, .slice eib lib mib], .int .u8 md] w fun e w' => e = .returned (.bool true) ∧ Below w.heap.size w w' := by
  obtain ⟨f, hf, hr, s, t, o, hs, ht, cs, ct, co, hneg, hpos, l5, l1, l2, l3, l4, l6, l7⟩ := near_law a u hu m
  have h2 : rnd a u m = (f : Rat) * u := hr
  obtain ⟨r, er⟩ : ∃ r, r = rnd a u m := ⟨_, rfl⟩
  rw [← er] at hs hneg hpos h2
  obtain ⟨d, ed⟩ : ∃ d, d = r - a := ⟨_, rfl⟩
  rw [← ed] at hs hneg hpos
  obtain ⟨g, eg⟩ : ∃ g, g = 0 - d := ⟨_, rfl⟩
  rw [← eg] at hneg
  have hu0 : u ≠ 0 := fun e => by rw [e] at hu; exact absurd hu (by decide)
  have fa : Fz 256 256 a := sa.mono (by decide) (by decide)
  have fu : Fz 256 256 u := su.mono (by decide) (by decide)
  have sf : Sz 81 f := by rw [hf]; exact rfac_sz81 sa.1 su.2 (Int.mul_pos (Fq.den_pos a) hu)
  have xr : Fz 121 41 r := by rw [h2]; exact Fz.mul (Fz.int sf) su
  have xd : Fz 162 81 d := by rw [ed]; exact Fz.sub xr sa
  have xg : Fz 162 81 g := by rw [eg, show 0 - d = -d by grind]; exact Fz.neg xd
  have fr : Fz 256 256 r := xr.mono (by decide) (by decide)
  have fd : Fz 256 256 d := xd.mono (by decide) (by decide)
  have fg : Fz 256 256 g := xg.mono (by decide) (by decide)
  have fdd : Fz 256 256 (d + d) := (Fz.add xd xd).mono (by decide) (by decide)
  have fgg : Fz 256 256 (g + g) := (Fz.add xg xg).mono (by decide) (by decide)
  have ff : Fz 256 256 (f : Rat) := (Fz.int sf).mono (by decide) (by decide)
  have f0 : Fz 256 256 (0 : Rat) := Fz.zero.mono (by decide) (by decide)
  have hov : r / u = (f : Rat) := by rw [h2]; exact Rat.mul_div_cancel hu0
  have H0 := Lib.hid (fun W => frFromInt_lit 0 0 (by decide +kernel) (by decide) (by decide) W)
  have HP := Lib.hid (fun va vb W (h : Fra W va u) (k : Fra W vb 0) => frCmp_lit va vb u 0 1 (by rw [cmpR_zero_num, if_neg (by omega), if_neg (by omega)]) fu f0 W h k)
  have HR := Lib.hid (fun va vb W (h : Fra W va a) (k : Fra W vb u) => frRound_lit va vb a u r m m rfl er.symm hm1 hm2 fa fu hu fr W h k)
  have HO := Lib.hid (fun va vb W (h : Fra W va r) (k : Fra W vb u) => law2_over_any va vb r u (f : Rat) hov hu0 fr fu ff W h k)
  have HD := Lib.hid (fun va vb W (h : Fra W va r) (k : Fra W vb a) => law2_less_any va vb r a d ed.symm fr fa fd W h k)
  have HC := Lib.hid (fun va vb W (h : Fra W va d) (k : Fra W vb 0) => frCmp_lit va vb d 0 s hs fd f0 W h k)
  have HT := Lib.hid (fun va vb W (h : Fra W va a) (k : Fra W vb 0) => frCmp_lit va vb a 0 t ht fa f0 W h k)
  have HL := Lib.hid (fun va vb W (h : Fra W va 0) (k : Fra W vb d) => law2_less_any va vb 0 d g eg.symm f0 fd fg W h k)
  have HSd := Lib.hid (fun va vb W (h : Fra W va d) (k : Fra W vb d) => law2_sum_any va vb d d (d + d) rfl fd fd fdd W h k)
  have HSg := Lib.hid (fun va vb W (h : Fra W va g) (k : Fra W vb g) => law2_sum_any va vb g g (g + g) rfl fg fg fgg W h k)
  have HN := Lib.hid hneg
  have HQ := Lib.hid hpos
  have HFs := Lib.hid (And.intro fu (And.intro fd (And.intro fg (And.intro fdd fgg))))
  have est : IntKind.i64.wrap (s * t) = s * t := by rcases cs with rfl | rfl | rfl <;> rcases ct with rfl | rfl | rfl <;> decide
  have L1 := Lib.hid l1
  have L2 := Lib.hid l2
  have L3 := Lib.hid l3
  have L4 := Lib.hid l4
  have L5 := Lib.hid l5
  have L6 := Lib.hid l6
  have L7 := Lib.hid l7
  have CO := Lib.hid co
  have HM := Lib.hid (And.intro hm1 hm2)
  have EST := Lib.hid est
  clear est l1 l2 l3 l4 l5 l6 l7 co hneg hpos cs ct hs ht hf hr h2 hov er ed eg hu0 fa fu sf xr xd xg fr fd fg fdd fgg ff f0 hm1 hm2 hu
  have hB := Below.refl w.heap.size w
  obtain ⟨al, xia, hN⟩ := mk hB #[.bool bia, .slice aia kia cia, .bool dia, .slice eia lia mia] 26
  replace ia := ia.on al
  replace ib := ib.on al
  replace hB := hN
  clear al hN
  try simp only [World.size_alloc] at xia
  obtain ⟨al, xib, hN⟩ := mk hB #[.bool bib, .slice aib kib cib, .bool dib, .slice eib lib mib] 26
  replace xia := xia.on al
  replace ia := ia.on al
  replace ib := ib.on al
  replace hB := hN
  clear al hN
  try simp only [World.size_alloc] at xib
  go_enter Tryz.func11, Tryz.ntmps11
  go_wp2_with fail
  refine (law2_awake_any _).mono ?_
  rintro e w1 ⟨rfl, hb⟩
  replace xia := xia.on hb
  replace xib := xib.on hb
  replace ia := ia.on hb
  replace ib := ib.on hb
  have hz1 := hb.size
  try simp at hz1
  replace hB := hB.trans (hb.mono hB.size)
  clear hb
  have pia := xia.all4
  have pib := xib.all4
  have ltia := xia.lt
  have ltib := xib.lt
  go_wp2_with fail
  clear ltia
  clear ltib
  clear pia pib
  refine (H0.out _).mono ?_
  rintro e w2 ⟨⟨v, rfl, gz⟩, hb⟩
  obtain ⟨bz, az, kz, cz, dz, ez, lz, mz, rfl⟩ := gz.opened
  replace xia := xia.on hb
  replace xib := xib.on hb
  replace ia := ia.on hb
  replace ib := ib.on hb
  have hz2 := hb.size
  try simp at hz2
  replace hB := hB.trans (hb.mono hB.size)
  clear hb
  have pia := xia.all4
  have pib := xib.all4
  have ltia := xia.lt
  have ltib := xib.lt
  go_wp2_with fail
  clear ltia
  clear ltib
  clear pia pib
  have xq := Bk.new (w2.alloc (.cells #[.bool bz, .slice az kz cz, .bool dz, .slice ez lz mz] 26)) #[.bool bia, .slice aia kia cia, .bool dia, .slice eia lia mia, .bool bib, .slice aib kib cib, .bool dib, .slice eib lib mib] 26
  rw [World.size_alloc] at xq
  have hb := (((Below.refl w2.heap.size w2).alloc (Nat.le_refl _) (.cells #[.bool bz, .slice az kz cz, .bool dz, .slice ez lz mz] 26)).alloc (by simp) (.cells #[.bool bia, .slice aia kia cia, .bool dia, .slice eia lia mia, .bool bib, .slice aib kib cib, .bool dib, .slice eib lib mib] 26))
  have xzero : Bk _ (w2.heap.size) #[.bool bz, .slice az kz cz, .bool dz, .slice ez lz mz] 26 := (Bk.new w2 #[.bool bz, .slice az kz cz, .bool dz, .slice ez lz mz] 26).alloc (.cells #[.bool bia, .slice aia kia cia, .bool dia, .slice eia lia mia, .bool bib, .slice aib kib cib, .bool dib, .slice eib lib mib] 26)
  have xrow : Bk _ (w2.heap.size + 1) #[.bool bia, .slice aia kia cia, .bool dia, .slice eia lia mia, .bool bib, .slice aib kib cib, .bool dib, .slice eib lib mib] 26 := xq
  clear xq
  replace xia := xia.on hb
  replace xib := xib.on hb
  replace ia := ia.on hb
  replace ib := ib.on hb
  replace gz := gz.on hb
  replace hB := hB.trans (hb.mono hB.size)
  clear hb
  have rw0 := xrow.cell 0
  have rw1 := xrow.cell 1
  have rw2 := xrow.cell 2
  have rw3 := xrow.cell 3
  have rw4 := xrow.cell 4
  have rw5 := xrow.cell 5
  have rw6 := xrow.cell 6
  have rw7 := xrow.cell 7
  simp only [List.getElem?_toArray, List.getElem?_cons_zero, List.getElem?_cons_succ] at rw0 rw1 rw2 rw3 rw4 rw5 rw6 rw7
  refine (usable2_fra (w2.heap.size + 1) a u bia aia kia cia dia eia lia mia bib aib kib cib dib eib lib mib _ rw0 rw1 rw2 rw3 rw4 rw5 rw6 rw7 ia ib sa su).mono ?_
  rintro e w3 ⟨rfl, hb⟩
  clear xrow rw0 rw1 rw2 rw3 rw4 rw5 rw6 rw7
  replace xia := xia.on hb
  replace xib := xib.on hb
  replace xzero := xzero.on hb
  replace ia := ia.on hb
  replace ib := ib.on hb
  replace gz := gz.on hb
  replace hB := hB.trans (hb.mono hB.size)
  clear hb
  have pia := xia.all4
  have pib := xib.all4
  have pzero := xzero.all4
  have ltia := xia.lt
  have ltib := xib.lt
  have ltzero := xzero.lt
  go_wp2_with fail
  clear ltia
  clear ltib
  clear ltzero
  clear pia pib pzero
  refine (HP.out _ _ _ ib gz).mono ?_
  rintro e w4 ⟨rfl, hb⟩
  replace xia := xia.on hb
  replace xib := xib.on hb
  replace xzero := xzero.on hb
  replace ia := ia.on hb
  replace ib := ib.on hb
  replace gz := gz.on hb
  have hz4 := hb.size
  try simp at hz4
  replace hB := hB.trans (hb.mono hB.size)
  clear hb
  have pia := xia.all4
  have pib := xib.all4
  have pzero := xzero.all4
  have ltia := xia.lt
  have ltib := xib.lt
  have ltzero := xzero.lt
  go_wp2_with fail
  clear ltia
  clear ltib
  clear ltzero
  clear pia pib pzero
  refine (HR.out _ _ _ ia ib).mono ?_
  rintro e w5 ⟨⟨v, rfl, gb⟩, hb⟩
  obtain ⟨bx1, ax1, kx1, cx1, dx1, ex1, lx1, mx1, rfl⟩ := gb.opened
  replace xia := xia.on hb
  replace xib := xib.on hb
  replace xzero := xzero.on hb
  replace ia := ia.on hb
  replace ib := ib.on hb
  replace gz := gz.on hb
  have hz5 := hb.size
  try simp at hz5
  replace hB := hB.trans (hb.mono hB.size)
  clear hb
  have pia := xia.all4
  have pib := xib.all4
  have pzero := xzero.all4
  have ltia := xia.lt
  have ltib := xib.lt
  have ltzero := xzero.lt
  go_wp2_with fail
  clear ltia
  clear ltib
  clear ltzero
  clear pia pib pzero
  have hb := ((Below.refl w5.heap.size w5).alloc (Nat.le_refl _) (.cells #[.bool bx1, .slice ax1 kx1 cx1, .bool dx1, .slice ex1 lx1 mx1] 26))
  have xb : Bk _ w5.heap.size #[.bool bx1, .slice ax1 kx1 cx1, .bool dx1, .slice ex1 lx1 mx1] 26 := (Bk.new w5 #[.bool bx1, .slice ax1 kx1 cx1, .bool dx1, .slice ex1 lx1 mx1] 26)
  replace xia := xia.on hb
  replace xib := xib.on hb
  replace xzero := xzero.on hb
  replace ia := ia.on hb
  replace ib := ib.on hb
  replace gz := gz.on hb
  replace gb := gb.on hb
  replace hB := hB.trans (hb.mono hB.size)
  clear hb
  obtain ⟨wb, hwb⟩ : ∃ W, W = (w5.alloc (.cells #[.bool bx1, .slice ax1 kx1 cx1, .bool dx1, .slice ex1 lx1 mx1] 26)) := ⟨_, rfl⟩
  rw [← hwb] at hB xia xib xzero xb ia ib gz gb ⊢
  clear hwb
  refine (HO.out _ _ _ gb ib).mono ?_
  rintro e w6 ⟨⟨v, rfl, gk⟩, hb⟩
  obtain ⟨bx2, ax2, kx2, cx2, dx2, ex2, lx2, mx2, rfl⟩ := gk.opened
  replace xia := xia.on hb
  replace xib := xib.on hb
  replace xzero := xzero.on hb
  replace xb := xb.on hb
  replace ia := ia.on hb
  replace ib := ib.on hb
  replace gz := gz.on hb
  replace gb := gb.on hb
  have hz6 := hb.size
  try simp at hz6
  replace hB := hB.trans (hb.mono hB.size)
  clear hb
  have pia := xia.all4
  have pib := xib.all4
  have pzero := xzero.all4
  have pb := xb.all4
  have ltia := xia.lt
  have ltib := xib.lt
  have ltzero := xzero.lt
  have ltb := xb.lt
  go_wp2_with fail
  clear ltia
  clear ltib
  clear ltzero
  clear ltb
  clear pia pib pzero pb
  have hb := ((Below.refl w6.heap.size w6).alloc (Nat.le_refl _) (.cells #[.bool bx2, .slice ax2 kx2 cx2, .bool dx2, .slice ex2 lx2 mx2] 26))
  have xk : Bk _ w6.heap.size #[.bool bx2, .slice ax2 kx2 cx2, .bool dx2, .slice ex2 lx2 mx2] 26 := (Bk.new w6 #[.bool bx2, .slice ax2 kx2 cx2, .bool dx2, .slice ex2 lx2 mx2] 26)
  replace xia := xia.on hb
  replace xib := xib.on hb
  replace xzero := xzero.on hb
  replace xb := xb.on hb
  replace ia := ia.on hb
  replace ib := ib.on hb
  replace gz := gz.on hb
  replace gb := gb.on hb
  replace gk := gk.on hb
  replace hB := hB.trans (hb.mono hB.size)
  clear hb
  obtain ⟨wk, hwk⟩ : ∃ W, W = (w6.alloc (.cells #[.bool bx2, .slice ax2 kx2 cx2, .bool dx2, .slice ex2 lx2 mx2] 26)) := ⟨_, rfl⟩
  rw [← hwk] at hB xia xib xzero xb xk ia ib gz gb gk ⊢
  clear hwk
  refine (HD.out _ _ _ gb ia).mono ?_
  rintro e w7 ⟨⟨v, rfl, gd⟩, hb⟩
  obtain ⟨bx3, ax3, kx3, cx3, dx3, ex3, lx3, mx3, rfl⟩ := gd.opened
  replace xia := xia.on hb
  replace xib := xib.on hb
  replace xzero := xzero.on hb
  replace xb := xb.on hb
  replace xk := xk.on hb
  replace ia := ia.on hb
  replace ib := ib.on hb
  replace gz := gz.on hb
  replace gb := gb.on hb
  replace gk := gk.on hb
  have hz7 := hb.size
  try simp at hz7
  replace hB := hB.trans (hb.mono hB.size)
  clear hb
  clear gb
  clear xb
  have pia := xia.all4
  have pib := xib.all4
  have pzero := xzero.all4
  have pk := xk.all4
  have ltia := xia.lt
  have ltib := xib.lt
  have ltzero := xzero.lt
  have ltk := xk.lt
  go_wp2_with fail
  clear ltia
  clear ltib
  clear ltzero
  clear ltk
  clear pia pib pzero pk
  have nia := xia.lt
  have nib := xib.lt
  have nzero := xzero.lt
  have nk := xk.lt
  have nB := hB.size
  have xq := Bk.new (w7.alloc (.cells #[.bool bx3, .slice ax3 kx3 cx3, .bool dx3, .slice ex3 lx3 mx3] 26)) #[.bool bx3, .slice ax3 kx3 cx3, .bool dx3, .slice ex3 lx3 mx3] 26
  rw [World.size_alloc] at xq
  have hb := (((Below.refl w7.heap.size w7).alloc (Nat.le_refl _) (.cells #[.bool bx3, .slice ax3 kx3 cx3, .bool dx3, .slice ex3 lx3 mx3] 26)).alloc (by simp) (.cells #[.bool bx3, .slice ax3 kx3 cx3, .bool dx3, .slice ex3 lx3 mx3] 26))
  have xd : Bk _ (w7.heap.size) #[.bool bx3, .slice ax3 kx3 cx3, .bool dx3, .slice ex3 lx3 mx3] 26 := (Bk.new w7 #[.bool bx3, .slice ax3 kx3 cx3, .bool dx3, .slice ex3 lx3 mx3] 26).alloc (.cells #[.bool bx3, .slice ax3 kx3 cx3, .bool dx3, .slice ex3 lx3 mx3] 26)
  have xsz : Bk _ (w7.heap.size + 1) #[.bool bx3, .slice ax3 kx3 cx3, .bool dx3, .slice ex3 lx3 mx3] 26 := xq
  clear xq
  replace xia := xia.on hb
  replace xib := xib.on hb
  replace xzero := xzero.on hb
  replace xk := xk.on hb
  replace ia := ia.on hb
  replace ib := ib.on hb
  replace gz := gz.on hb
  replace gk := gk.on hb
  replace gd := gd.on hb
  replace hB := hB.trans (hb.mono hB.size)
  clear hb
  obtain ⟨ws, hws⟩ : ∃ W, W = ((w7.alloc (.cells #[.bool bx3, .slice ax3 kx3 cx3, .bool dx3, .slice ex3 lx3 mx3] 26)).alloc (.cells #[.bool bx3, .slice ax3 kx3 cx3, .bool dx3, .slice ex3 lx3 mx3] 26)) := ⟨_, rfl⟩
  rw [← hws] at hB xia xib xzero xk xd xsz ia ib gz gk gd ⊢
  clear hws
  refine (HC.out _ _ _ gd gz).mono ?_
  rintro e w8 ⟨rfl, hb⟩
  replace xia := xia.on hb
  replace xib := xib.on hb
  replace xzero := xzero.on hb
  replace xk := xk.on hb
  replace xd := xd.on hb
  replace xsz := xsz.on hb
  replace ia := ia.on hb
  replace ib := ib.on hb
  replace gz := gz.on hb
  replace gk := gk.on hb
  replace gd := gd.on hb
  have hz8 := hb.size
  try simp at hz8
  replace hB := hB.trans (hb.mono hB.size)
  clear hb
  by_cases hsg : s < 0
  · obtain ⟨hc1, hc2⟩ := HN.out hsg
    obtain ⟨fu, fd, fg, fdd, fgg⟩ := HFs.out
    have HU := Lib.hid (fun va vb W (h : Fra W va g) (k : Fra W vb u) => frCmp_lit va vb g u (-1) hc1 fg fu W h k)
    have HK := Lib.hid (fun va vb W (h : Fra W va (g + g)) (k : Fra W vb u) => frCmp_lit va vb (g + g) u o hc2 fgg fu W h k)
    clear hc1 hc2 fu fd fg fdd fgg
    have pia := xia.all4
    have pib := xib.all4
    have pzero := xzero.all4
    have pk := xk.all4
    have pd := xd.all4
    have psz := xsz.all4
    have ltia := xia.lt
    have ltib := xib.lt
    have ltzero := xzero.lt
    have ltk := xk.lt
    have ltd := xd.lt
    have ltsz := xsz.lt
    go_wp2_with fail
    clear ltia
    clear ltib
    clear ltzero
    clear ltk
    clear ltd
    clear ltsz
    clear pia pib pzero pk pd psz
    refine (HL.out _ _ _ gz gd).mono ?_
    rintro e w9 ⟨⟨v, rfl, gg⟩, hb⟩
    obtain ⟨bx4, ax4, kx4, cx4, dx4, ex4, lx4, mx4, rfl⟩ := gg.opened
    replace xia := xia.on hb
    replace xib := xib.on hb
    replace xzero := xzero.on hb
    replace xk := xk.on hb
    replace xd := xd.on hb
    replace xsz := xsz.on hb
    replace ia := ia.on hb
    replace ib := ib.on hb
    replace gz := gz.on hb
    replace gk := gk.on hb
    replace gd := gd.on hb
    have hz9 := hb.size
    try simp at hz9
    replace hB := hB.trans (hb.mono hB.size)
    clear hb
    have pia := xia.all4
    have pib := xib.all4
    have pzero := xzero.all4
    have pk := xk.all4
    have pd := xd.all4
    have psz := xsz.all4
    have ltia := xia.lt
    have ltib := xib.lt
    have ltzero := xzero.lt
    have ltk := xk.lt
    have ltd := xd.lt
    have ltsz := xsz.lt
    go_wp2_with fail
    clear ltia
    clear ltib
    clear ltzero
    clear ltk
    clear ltd
    clear ltsz
    clear pia pib pzero pk pd psz
    replace ia := ia.setB4 xsz rfl (.bool bx4) (.slice ax4 kx4 cx4) (.bool dx4) (.slice ex4 lx4 mx4) rfl
    replace ib := ib.setB4 xsz rfl (.bool bx4) (.slice ax4 kx4 cx4) (.bool dx4) (.slice ex4 lx4 mx4) rfl
    replace gz := gz.setB4 xsz rfl (.bool bx4) (.slice ax4 kx4 cx4) (.bool dx4) (.slice ex4 lx4 mx4) rfl
    replace gk := gk.setB4 xsz rfl (.bool bx4) (.slice ax4 kx4 cx4) (.bool dx4) (.slice ex4 lx4 mx4) rfl
    replace gd := gd.setB4 xsz rfl (.bool bx4) (.slice ax4 kx4 cx4) (.bool dx4) (.slice ex4 lx4 mx4) rfl
    replace gg := gg.setB4 xsz rfl (.bool bx4) (.slice ax4 kx4 cx4) (.bool dx4) (.slice ex4 lx4 mx4) rfl
    replace xia := xia.put_other4 (w7.heap.size + 1) (.bool bx4) (.slice ax4 kx4 cx4) (.bool dx4) (.slice ex4 lx4 mx4) (by omega)
    replace xib := xib.put_other4 (w7.heap.size + 1) (.bool bx4) (.slice ax4 kx4 cx4) (.bool dx4) (.slice ex4 lx4 mx4) (by omega)
    replace xzero := xzero.put_other4 (w7.heap.size + 1) (.bool bx4) (.slice ax4 kx4 cx4) (.bool dx4) (.slice ex4 lx4 mx4) (by omega)
    replace xk := xk.put_other4 (w7.heap.size + 1) (.bool bx4) (.slice ax4 kx4 cx4) (.bool dx4) (.slice ex4 lx4 mx4) (by omega)
    replace xd := xd.put_other4 (w7.heap.size + 1) (.bool bx4) (.slice ax4 kx4 cx4) (.bool dx4) (.slice ex4 lx4 mx4) (by omega)
    replace xsz := xsz.put4 (.bool bx4) (.slice ax4 kx4 cx4) (.bool dx4) (.slice ex4 lx4 mx4)
    replace hB := below4 hB (w7.heap.size + 1) (by first | omega | (simp; omega) | simp) (.bool bx4) (.slice ax4 kx4 cx4) (.bool dx4) (.slice ex4 lx4 mx4)
    obtain ⟨wt, hwt⟩ : ∃ W, W = ((((w9.setCell ⟨w7.heap.size + 1, 0, none⟩ (.bool bx4)).setCell ⟨w7.heap.size + 1, 1, none⟩ (.slice ax4 kx4 cx4)).setCell ⟨w7.heap.size + 1, 2, none⟩ (.bool dx4)).setCell ⟨w7.heap.size + 1, 3, none⟩ (.slice ex4 lx4 mx4)) := ⟨_, rfl⟩
    rw [← hwt] at hB xia xib xzero xk xd xsz ia ib gz gk gd gg ⊢
    clear hwt
    have qsz := xsz.lt
    have qib := xib.lt
    obtain ⟨gsz0, gsz1, gsz2, gsz3⟩ := xsz.cells4
    obtain ⟨gib0, gib1, gib2, gib3⟩ := xib.cells4
    refine wp_region_noPanic ?_
    refine wp_region_held_drew (S := (fun w' => (w'.cell? ⟨w7.heap.size + 1, 0, none⟩ = some (.bool bx4) ∧ w'.cell? ⟨w7.heap.size + 1, 1, none⟩ = some (.slice ax4 kx4 cx4) ∧ w'.cell? ⟨w7.heap.size + 1, 2, none⟩ = some (.bool dx4) ∧ w'.cell? ⟨w7.heap.size + 1, 3, none⟩ = some (.slice ex4 lx4 mx4)) ∧ w'.cell? ⟨w.heap.size + 1, 0, none⟩ = some (.bool bib) ∧ w'.cell? ⟨w.heap.size + 1, 1, none⟩ = some (.slice aib kib cib) ∧ w'.cell? ⟨w.heap.size + 1, 2, none⟩ = some (.bool dib) ∧ w'.cell? ⟨w.heap.size + 1, 3, none⟩ = some (.slice eib lib mib))) (by kernel_rfl) ⟨⟨gsz0, gsz1, gsz2, gsz3⟩, ⟨gib0, gib1, gib2, gib3⟩⟩ (fun hR0 => ?_)
    change wpAnyH _ _ _ _ _ 6 #[false, false, false, false, false, false] _ _
    clear gsz0 gsz1 gsz2 gsz3 gib0 gib1 gib2 gib3
    refine tk (i := 0) (v := ?_) rfl (by kernel_rfl) (fun _ _ _ h => h) (by rfl) ?_ (by assumption) ?_
    rotate_left 1
    · (intro w hSw; (try dsimp only at hSw); go_simp <;> (with_reducible rfl))
    (try simp only [Act.put, List.setIfInBounds_toArray, List.set])
    refine tk (i := 1) (v := ?_) rfl (by kernel_rfl) (fun _ _ _ h => h) (by rfl) ?_ (by assumption) ?_
    rotate_left 1
    · (intro w hSw; (try dsimp only at hSw); go_simp <;> (with_reducible rfl))
    (try simp only [Act.put, List.setIfInBounds_toArray, List.set])
    refine tk (i := 3) (v := ?_) rfl (by kernel_rfl) (fun _ _ _ h => h) (by rfl) ?_ (by assumption) ?_
    rotate_left 1
    · (intro w hSw; (try dsimp only at hSw); go_simp <;> (with_reducible rfl))
    (try simp only [Act.put, List.setIfInBounds_toArray, List.set])
    refine rd1 (i := 2) (by kernel_rfl) rfl (fun K hK => ?_)
    go_simp
    go_at_call 44; have hBd := hB.drew; refine (HSg.out _ _ _ (by exact gg) (by exact gg)).mono ?_; rintro e w10 ⟨⟨v5, rfl, g5⟩, hb⟩; replace hb := (Below.refl wt.heap.size wt).drew.trans hb; replace xia := xia.on hb; replace xib := xib.on hb; replace xzero := xzero.on hb; replace xk := xk.on hb; replace xd := xd.on hb; replace xsz := xsz.on hb; replace ia := ia.on hb; replace ib := ib.on hb; replace gz := gz.on hb; replace gk := gk.on hb; replace gd := gd.on hb; replace gg := gg.on hb; replace hB := hB.trans (hb.mono hB.size); have hz10 := hb.size
    (try go_wp2_with fail)
    refine hK.out _ _ (⟨keep4 hb qsz hR0.1, keep4 hb qib hR0.2⟩) (fun hR1 => ?_)
    clear hK K hR0
    (first | ((fail_if_success (unfold Act.put)); (try simp only [List.setIfInBounds_toArray, List.set])) | (try simp only [Act.put, List.setIfInBounds_toArray, List.set]))
    replace qsz := Nat.lt_of_lt_of_le qsz hz10
    replace qib := Nat.lt_of_lt_of_le qib hz10
    clear hb hBd
    refine rd1 (i := 4) (by kernel_rfl) rfl (fun K hK => ?_)
    go_simp
    go_at_call 52; have hBd := hB; refine (HK.out _ _ _ g5 ib).mono ?_; rintro e w11 ⟨rfl, hb⟩; replace xia := xia.on hb; replace xib := xib.on hb; replace xzero := xzero.on hb; replace xk := xk.on hb; replace xd := xd.on hb; replace xsz := xsz.on hb; replace ia := ia.on hb; replace ib := ib.on hb; replace gz := gz.on hb; replace gk := gk.on hb; replace gd := gd.on hb; replace gg := gg.on hb; replace g5 := g5.on hb; replace hB := hB.trans (hb.mono hB.size); have hz11 := hb.size
    (try go_wp2_with fail)
    refine hK.out _ _ (⟨keep4 hb qsz hR1.1, keep4 hb qib hR1.2⟩) (fun hR2 => ?_)
    clear hK K hR1
    (first | ((fail_if_success (unfold Act.put)); (try simp only [List.setIfInBounds_toArray, List.set])) | (try simp only [Act.put, List.setIfInBounds_toArray, List.set]))
    replace qsz := Nat.lt_of_lt_of_le qsz hz11
    replace qib := Nat.lt_of_lt_of_le qib hz11
    clear hb hBd
    refine tk (i := 5) (v := ?_) rfl (by kernel_rfl) (fun _ _ _ h => h) (by rfl) ?_ (by assumption) ?_
    rotate_left 1
    · (intro w hSw; (try dsimp only at hSw); go_simp <;> (with_reducible rfl))
    (try simp only [Act.put, List.setIfInBounds_toArray, List.set])
    refine wpAnyH_done (by kernel_rfl) ?_ _
    refine NoPanic.normal ?_
    clear hR2
    clear qsz qib
    clear g5
    have hm6 : m = 1 ∨ m = 2 ∨ m = 3 ∨ m = 4 ∨ m = 5 ∨ m = 6 := by have := HM.out; omega
    obtain ⟨-, -, -, nk⟩ := fra_nums gk
    have hk := num_lim' nk
    rw [Rat.den_intCast, dig_one] at hk
    obtain rfl : lx2 = 1 := by have := (num_len nk).1; rw [Rat.den_intCast] at this; rw [this]; decide +kernel
    obtain ⟨kb, ko, rfl⟩ := lim_addr hk (by simp)
    have kc := cell_of_lim hk 0 (by simp)
    have kx : ([1] : List Nat)[0]?.getD 0 = 1 := rfl
    rw [kx] at kc
    simp only [Nat.add_zero, Int.natCast_one] at kc
    have kl := lt_of_cell kc
    clear nk hk kx
    rcases hm6 with rfl | rfl | rfl | rfl | rfl | rfl
    · have h5 := L5.out
      clear h5
      have pia := xia.all4
      have pib := xib.all4
      have pzero := xzero.all4
      have pk := xk.all4
      have pd := xd.all4
      have psz := xsz.all4
      have ltia := xia.lt
      have ltib := xib.lt
      have ltzero := xzero.lt
      have ltk := xk.lt
      have ltd := xd.lt
      have ltsz := xsz.lt
      go_wp2_with fail
      clear ltia
      clear ltib
      clear ltzero
      clear ltk
      clear ltd
      clear ltsz
      clear pia pib pzero pk pd psz
      refine (HU.out _ _ _ gg ib).mono ?_
      rintro e w12 ⟨rfl, hb⟩
      replace xia := xia.on hb
      replace xib := xib.on hb
      replace xzero := xzero.on hb
      replace xk := xk.on hb
      replace xd := xd.on hb
      replace xsz := xsz.on hb
      replace ia := ia.on hb
      replace ib := ib.on hb
      replace gz := gz.on hb
      replace gk := gk.on hb
      replace gd := gd.on hb
      replace gg := gg.on hb
      have hz12 := hb.size
      try simp at hz12
      replace hB := hB.trans (hb.mono hB.size)
      clear hb
      clear kc kl
      have pia := xia.all4
      have pib := xib.all4
      have pzero := xzero.all4
      have pk := xk.all4
      have pd := xd.all4
      have psz := xsz.all4
      have ltia := xia.lt
      have ltib := xib.lt
      have ltzero := xzero.lt
      have ltk := xk.lt
      have ltd := xd.lt
      have ltsz := xsz.lt
      go_wp2_with fail
      clear ltia
      clear ltib
      clear ltzero
      clear ltk
      clear ltd
      clear ltsz
      clear pia pib pzero pk pd psz
      have qd := xd.lt
      have qzero := xzero.lt
      have qia := xia.lt
      obtain ⟨gd0, gd1, gd2, gd3⟩ := xd.cells4
      obtain ⟨gzero0, gzero1, gzero2, gzero3⟩ := xzero.cells4
      obtain ⟨gia0, gia1, gia2, gia3⟩ := xia.cells4
      refine wp_region_noPanic ?_
      refine wp_region_held_drew (S := (fun w' => (w'.cell? ⟨w7.heap.size, 0, none⟩ = some (.bool bx3) ∧ w'.cell? ⟨w7.heap.size, 1, none⟩ = some (.slice ax3 kx3 cx3) ∧ w'.cell? ⟨w7.heap.size, 2, none⟩ = some (.bool dx3) ∧ w'.cell? ⟨w7.heap.size, 3, none⟩ = some (.slice ex3 lx3 mx3)) ∧ (w'.cell? ⟨w2.heap.size, 0, none⟩ = some (.bool bz) ∧ w'.cell? ⟨w2.heap.size, 1, none⟩ = some (.slice az kz cz) ∧ w'.cell? ⟨w2.heap.size, 2, none⟩ = some (.bool dz) ∧ w'.cell? ⟨w2.heap.size, 3, none⟩ = some (.slice ez lz mz)) ∧ w'.cell? ⟨w.heap.size, 0, none⟩ = some (.bool bia) ∧ w'.cell? ⟨w.heap.size, 1, none⟩ = some (.slice aia kia cia) ∧ w'.cell? ⟨w.heap.size, 2, none⟩ = some (.bool dia) ∧ w'.cell? ⟨w.heap.size, 3, none⟩ = some (.slice eia lia mia))) (by kernel_rfl) ⟨⟨gd0, gd1, gd2, gd3⟩, ⟨gzero0, gzero1, gzero2, gzero3⟩, ⟨gia0, gia1, gia2, gia3⟩⟩ (fun hR0 => ?_)
      change wpAnyH _ _ _ _ _ 8 #[false, false, false, false, false, false, false, false] _ _
      clear gd0 gd1 gd2 gd3 gzero0 gzero1 gzero2 gzero3 gia0 gia1 gia2 gia3
      refine tk (i := 0) (v := ?_) rfl (by kernel_rfl) (fun _ _ _ h => h) (by rfl) ?_ (by assumption) ?_
      rotate_left 1
      · (intro w hSw; (try dsimp only at hSw); go_simp <;> (with_reducible rfl))
      (try simp only [Act.put, List.setIfInBounds_toArray, List.set])
      refine tk (i := 1) (v := ?_) rfl (by kernel_rfl) (fun _ _ _ h => h) (by rfl) ?_ (by assumption) ?_
      rotate_left 1
      · (intro w hSw; (try dsimp only at hSw); go_simp <;> (with_reducible rfl))
      (try simp only [Act.put, List.setIfInBounds_toArray, List.set])
      refine tk (i := 3) (v := ?_) rfl (by kernel_rfl) (fun _ _ _ h => h) (by rfl) ?_ (by assumption) ?_
      rotate_left 1
      · (intro w hSw; (try dsimp only at hSw); go_simp <;> (with_reducible rfl))
      (try simp only [Act.put, List.setIfInBounds_toArray, List.set])
      refine tk (i := 4) (v := ?_) rfl (by kernel_rfl) (fun _ _ _ h => h) (by rfl) ?_ (by assumption) ?_
      rotate_left 1
      · (intro w hSw; (try dsimp only at hSw); go_simp <;> (with_reducible rfl))
      (try simp only [Act.put, List.setIfInBounds_toArray, List.set])
      refine rd1 (i := 2) (by kernel_rfl) rfl (fun K hK => ?_)
      go_simp
      go_at_call 52; have hBd := hB.drew; refine (HC.out _ _ _ (by exact gd) (by exact gz)).mono ?_; rintro e w13 ⟨rfl, hb⟩; replace hb := (Below.refl w12.heap.size w12).drew.trans hb; replace xia := xia.on hb; replace xib := xib.on hb; replace xzero := xzero.on hb; replace xk := xk.on hb; replace xd := xd.on hb; replace xsz := xsz.on hb; replace ia := ia.on hb; replace ib := ib.on hb; replace gz := gz.on hb; replace gk := gk.on hb; replace gd := gd.on hb; replace gg := gg.on hb; replace hB := hB.trans (hb.mono hB.size); have hz13 := hb.size
      (try go_wp2_with fail)
      refine hK.out _ _ (⟨keep4 hb qd hR0.1, keep4 hb qzero hR0.2.1, keep4 hb qia hR0.2.2⟩) (fun hR1 => ?_)
      clear hK K hR0
      (first | ((fail_if_success (unfold Act.put)); (try simp only [List.setIfInBounds_toArray, List.set])) | (try simp only [Act.put, List.setIfInBounds_toArray, List.set]))
      replace qd := Nat.lt_of_lt_of_le qd hz13
      replace qzero := Nat.lt_of_lt_of_le qzero hz13
      replace qia := Nat.lt_of_lt_of_le qia hz13
      clear hb hBd
      refine rd1 (i := 5) (by kernel_rfl) rfl (fun K hK => ?_)
      go_simp
      go_at_call 52; have hBd := hB; refine (HT.out _ _ _ ia gz).mono ?_; rintro e w14 ⟨rfl, hb⟩; replace xia := xia.on hb; replace xib := xib.on hb; replace xzero := xzero.on hb; replace xk := xk.on hb; replace xd := xd.on hb; replace xsz := xsz.on hb; replace ia := ia.on hb; replace ib := ib.on hb; replace gz := gz.on hb; replace gk := gk.on hb; replace gd := gd.on hb; replace gg := gg.on hb; replace hB := hB.trans (hb.mono hB.size); have hz14 := hb.size
      (try go_wp2_with fail)
      refine hK.out _ _ (⟨keep4 hb qd hR1.1, keep4 hb qzero hR1.2.1, keep4 hb qia hR1.2.2⟩) (fun hR2 => ?_)
      clear hK K hR1
      (first | ((fail_if_success (unfold Act.put)); (try simp only [List.setIfInBounds_toArray, List.set])) | (try simp only [Act.put, List.setIfInBounds_toArray, List.set]))
      replace qd := Nat.lt_of_lt_of_le qd hz14
      replace qzero := Nat.lt_of_lt_of_le qzero hz14
      replace qia := Nat.lt_of_lt_of_le qia hz14
      clear hb hBd
      refine tk (i := 6) (v := ?_) rfl (by kernel_rfl) (fun _ _ _ h => h) (by rfl) ?_ (by assumption) ?_
      rotate_left 1
      · (intro w hSw; (try dsimp only at hSw); go_simp <;> (with_reducible rfl))
      (try simp only [Act.put, List.setIfInBounds_toArray, List.set])
      refine tk (i := 7) (v := ?_) rfl (by kernel_rfl) (fun _ _ _ h => h) (by rfl) ?_ (by assumption) ?_
      rotate_left 1
      · (intro w hSw; (try dsimp only at hSw); go_simp <;> (with_reducible rfl))
      (try simp only [Act.put, List.setIfInBounds_toArray, List.set])
      refine wpAnyH_done (by kernel_rfl) ?_ _
      refine NoPanic.normal ?_
      clear hR2
      clear qd qzero qia
      have est := EST.out
      have hL := L1.out (by trivial)
      go_wp2
      go_ret
      exact ⟨by first | rfl | (simp; omega) | simp [hL], hB⟩
    · have h5 := L5.out
      clear h5
      have pia := xia.all4
      have pib := xib.all4
      have pzero := xzero.all4
      have pk := xk.all4
      have pd := xd.all4
      have psz := xsz.all4
      have ltia := xia.lt
      have ltib := xib.lt
      have ltzero := xzero.lt
      have ltk := xk.lt
      have ltd := xd.lt
      have ltsz := xsz.lt
      go_wp2_with fail
      clear ltia
      clear ltib
      clear ltzero
      clear ltk
      clear ltd
      clear ltsz
      clear pia pib pzero pk pd psz
      refine (HU.out _ _ _ gg ib).mono ?_
      rintro e w12 ⟨rfl, hb⟩
      replace xia := xia.on hb
      replace xib := xib.on hb
      replace xzero := xzero.on hb
      replace xk := xk.on hb
      replace xd := xd.on hb
      replace xsz := xsz.on hb
      replace ia := ia.on hb
      replace ib := ib.on hb
      replace gz := gz.on hb
      replace gk := gk.on hb
      replace gd := gd.on hb
      replace gg := gg.on hb
      have hz12 := hb.size
      try simp at hz12
      replace hB := hB.trans (hb.mono hB.size)
      clear hb
      clear kc kl
      have pia := xia.all4
      have pib := xib.all4
      have pzero := xzero.all4
      have pk := xk.all4
      have pd := xd.all4
      have psz := xsz.all4
      have ltia := xia.lt
      have ltib := xib.lt
      have ltzero := xzero.lt
      have ltk := xk.lt
      have ltd := xd.lt
      have ltsz := xsz.lt
      go_wp2_with fail
      clear ltia
      clear ltib
      clear ltzero
      clear ltk
      clear ltd
      clear ltsz
      clear pia pib pzero pk pd psz
      have qd := xd.lt
      have qzero := xzero.lt
      have qia := xia.lt
      obtain ⟨gd0, gd1, gd2, gd3⟩ := xd.cells4
      obtain ⟨gzero0, gzero1, gzero2, gzero3⟩ := xzero.cells4
      obtain ⟨gia0, gia1, gia2, gia3⟩ := xia.cells4
      refine wp_region_noPanic ?_
      refine wp_region_held_drew (S := (fun w' => (w'.cell? ⟨w7.heap.size, 0, none⟩ = some (.bool bx3) ∧ w'.cell? ⟨w7.heap.size, 1, none⟩ = some (.slice ax3 kx3 cx3) ∧ w'.cell? ⟨w7.heap.size, 2, none⟩ = some (.bool dx3) ∧ w'.cell? ⟨w7.heap.size, 3, none⟩ = some (.slice ex3 lx3 mx3)) ∧ (w'.cell? ⟨w2.heap.size, 0, none⟩ = some (.bool bz) ∧ w'.cell? ⟨w2.heap.size, 1, none⟩ = some (.slice az kz cz) ∧ w'.cell? ⟨w2.heap.size, 2, none⟩ = some (.bool dz) ∧ w'.cell? ⟨w2.heap.size, 3, none⟩ = some (.slice ez lz mz)) ∧ w'.cell? ⟨w.heap.size, 0, none⟩ = some (.bool bia) ∧ w'.cell? ⟨w.heap.size, 1, none⟩ = some (.slice aia kia cia) ∧ w'.cell? ⟨w.heap.size, 2, none⟩ = some (.bool dia) ∧ w'.cell? ⟨w.heap.size, 3, none⟩ = some (.slice eia lia mia))) (by kernel_rfl) ⟨⟨gd0, gd1, gd2, gd3⟩, ⟨gzero0, gzero1, gzero2, gzero3⟩, ⟨gia0, gia1, gia2, gia3⟩⟩ (fun hR0 => ?_)
      change wpAnyH _ _ _ _ _ 8 #[false, false, false, false, false, false, false, false] _ _
      clear gd0 gd1 gd2 gd3 gzero0 gzero1 gzero2 gzero3 gia0 gia1 gia2 gia3
      refine tk (i := 0) (v := ?_) rfl (by kernel_rfl) (fun _ _ _ h => h) (by rfl) ?_ (by assumption) ?_
      rotate_left 1
      · (intro w hSw; (try dsimp only at hSw); go_simp <;> (with_reducible rfl))
      (try simp only [Act.put, List.setIfInBounds_toArray, List.set])
      refine tk (i := 1) (v := ?_) rfl (by kernel_rfl) (fun _ _ _ h => h) (by rfl) ?_ (by assumption) ?_
      rotate_left 1
      · (intro w hSw; (try dsimp only at hSw); go_simp <;> (with_reducible rfl))
      (try simp only [Act.put, List.setIfInBounds_toArray, List.set])
      refine tk (i := 3) (v := ?_) rfl (by kernel_rfl) (fun _ _ _ h => h) (by rfl) ?_ (by assumption) ?_
      rotate_left 1
      · (intro w hSw; (try dsimp only at hSw); go_simp <;> (with_reducible rfl))
      (try simp only [Act.put, List.setIfInBounds_toArray, List.set])
      refine tk (i := 4) (v := ?_) rfl (by kernel_rfl) (fun _ _ _ h => h) (by rfl) ?_ (by assumption) ?_
      rotate_left 1
      · (intro w hSw; (try dsimp only at hSw); go_simp <;> (with_reducible rfl))
      (try simp only [Act.put, List.setIfInBounds_toArray, List.set])
      refine rd1 (i := 2) (by kernel_rfl) rfl (fun K hK => ?_)
      go_simp
      go_at_call 52; have hBd := hB.drew; refine (HC.out _ _ _ (by exact gd) (by exact gz)).mono ?_; rintro e w13 ⟨rfl, hb⟩; replace hb := (Below.refl w12.heap.size w12).drew.trans hb; replace xia := xia.on hb; replace xib := xib.on hb; replace xzero := xzero.on hb; replace xk := xk.on hb; replace xd := xd.on hb; replace xsz := xsz.on hb; replace ia := ia.on hb; replace ib := ib.on hb; replace gz := gz.on hb; replace gk := gk.on hb; replace gd := gd.on hb; replace gg := gg.on hb; replace hB := hB.trans (hb.mono hB.size); have hz13 := hb.size
      (try go_wp2_with fail)
      refine hK.out _ _ (⟨keep4 hb qd hR0.1, keep4 hb qzero hR0.2.1, keep4 hb qia hR0.2.2⟩) (fun hR1 => ?_)
      clear hK K hR0
      (first | ((fail_if_success (unfold Act.put)); (try simp only [List.setIfInBounds_toArray, List.set])) | (try simp only [Act.put, List.setIfInBounds_toArray, List.set]))
      replace qd := Nat.lt_of_lt_of_le qd hz13
      replace qzero := Nat.lt_of_lt_of_le qzero hz13
      replace qia := Nat.lt_of_lt_of_le qia hz13
      clear hb hBd
      refine rd1 (i := 5) (by kernel_rfl) rfl (fun K hK => ?_)
      go_simp
      go_at_call 52; have hBd := hB; refine (HT.out _ _ _ ia gz).mono ?_; rintro e w14 ⟨rfl, hb⟩; replace xia := xia.on hb; replace xib := xib.on hb; replace xzero := xzero.on hb; replace xk := xk.on hb; replace xd := xd.on hb; replace xsz := xsz.on hb; replace ia := ia.on hb; replace ib := ib.on hb; replace gz := gz.on hb; replace gk := gk.on hb; replace gd := gd.on hb; replace gg := gg.on hb; replace hB := hB.trans (hb.mono hB.size); have hz14 := hb.size
      (try go_wp2_with fail)
      refine hK.out _ _ (⟨keep4 hb qd hR1.1, keep4 hb qzero hR1.2.1, keep4 hb qia hR1.2.2⟩) (fun hR2 => ?_)
      clear hK K hR1
      (first | ((fail_if_success (unfold Act.put)); (try simp only [List.setIfInBounds_toArray, List.set])) | (try simp only [Act.put, List.setIfInBounds_toArray, List.set]))
      replace qd := Nat.lt_of_lt_of_le qd hz14
      replace qzero := Nat.lt_of_lt_of_le qzero hz14
      replace qia := Nat.lt_of_lt_of_le qia hz14
      clear hb hBd
      refine tk (i := 6) (v := ?_) rfl (by kernel_rfl) (fun _ _ _ h => h) (by rfl) ?_ (by assumption) ?_
      rotate_left 1
      · (intro w hSw; (try dsimp only at hSw); go_simp <;> (with_reducible rfl))
      (try simp only [Act.put, List.setIfInBounds_toArray, List.set])
      refine tk (i := 7) (v := ?_) rfl (by kernel_rfl) (fun _ _ _ h => h) (by rfl) ?_ (by assumption) ?_
      rotate_left 1
      · (intro w hSw; (try dsimp only at hSw); go_simp <;> (with_reducible rfl))
      (try simp only [Act.put, List.setIfInBounds_toArray, List.set])
      refine wpAnyH_done (by kernel_rfl) ?_ _
      refine NoPanic.normal ?_
      clear hR2
      clear qd qzero qia
      have est := EST.out
      have hL := L2.out (by trivial)
      go_wp2
      go_ret
      exact ⟨by first | rfl | (simp; omega) | simp [hL], hB⟩
    · have h5 := L5.out
      clear h5
      have pia := xia.all4
      have pib := xib.all4
      have pzero := xzero.all4
      have pk := xk.all4
      have pd := xd.all4
      have psz := xsz.all4
      have ltia := xia.lt
      have ltib := xib.lt
      have ltzero := xzero.lt
      have ltk := xk.lt
      have ltd := xd.lt
      have ltsz := xsz.lt
      go_wp2_with fail
      clear ltia
      clear ltib
      clear ltzero
      clear ltk
      clear ltd
      clear ltsz
      clear pia pib pzero pk pd psz
      refine (HU.out _ _ _ gg ib).mono ?_
      rintro e w12 ⟨rfl, hb⟩
      replace xia := xia.on hb
      replace xib := xib.on hb
      replace xzero := xzero.on hb
      replace xk := xk.on hb
      replace xd := xd.on hb
      replace xsz := xsz.on hb
      replace ia := ia.on hb
      replace ib := ib.on hb
      replace gz := gz.on hb
      replace gk := gk.on hb
      replace gd := gd.on hb
      replace gg := gg.on hb
      have hz12 := hb.size
      try simp at hz12
      replace hB := hB.trans (hb.mono hB.size)
      clear hb
      clear kc kl
      have pia := xia.all4
      have pib := xib.all4
      have pzero := xzero.all4
      have pk := xk.all4
      have pd := xd.all4
      have psz := xsz.all4
      have ltia := xia.lt
      have ltib := xib.lt
      have ltzero := xzero.lt
      have ltk := xk.lt
      have ltd := xd.lt
      have ltsz := xsz.lt
      go_wp2_with fail
      clear ltia
      clear ltib
      clear ltzero
      clear ltk
      clear ltd
      clear ltsz
      clear pia pib pzero pk pd psz
      have qd := xd.lt
      have qzero := xzero.lt
      have qia := xia.lt
      obtain ⟨gd0, gd1, gd2, gd3⟩ := xd.cells4
      obtain ⟨gzero0, gzero1, gzero2, gzero3⟩ := xzero.cells4
      obtain ⟨gia0, gia1, gia2, gia3⟩ := xia.cells4
      refine wp_region_noPanic ?_
      refine wp_region_held_drew (S := (fun w' => (w'.cell? ⟨w7.heap.size, 0, none⟩ = some (.bool bx3) ∧ w'.cell? ⟨w7.heap.size, 1, none⟩ = some (.slice ax3 kx3 cx3) ∧ w'.cell? ⟨w7.heap.size, 2, none⟩ = some (.bool dx3) ∧ w'.cell? ⟨w7.heap.size, 3, none⟩ = some (.slice ex3 lx3 mx3)) ∧ (w'.cell? ⟨w2.heap.size, 0, none⟩ = some (.bool bz) ∧ w'.cell? ⟨w2.heap.size, 1, none⟩ = some (.slice az kz cz) ∧ w'.cell? ⟨w2.heap.size, 2, none⟩ = some (.bool dz) ∧ w'.cell? ⟨w2.heap.size, 3, none⟩ = some (.slice ez lz mz)) ∧ w'.cell? ⟨w.heap.size, 0, none⟩ = some (.bool bia) ∧ w'.cell? ⟨w.heap.size, 1, none⟩ = some (.slice aia kia cia) ∧ w'.cell? ⟨w.heap.size, 2, none⟩ = some (.bool dia) ∧ w'.cell? ⟨w.heap.size, 3, none⟩ = some (.slice eia lia mia))) (by kernel_rfl) ⟨⟨gd0, gd1, gd2, gd3⟩, ⟨gzero0, gzero1, gzero2, gzero3⟩, ⟨gia0, gia1, gia2, gia3⟩⟩ (fun hR0 => ?_)
      change wpAnyH _ _ _ _ _ 8 #[false, false, false, false, false, false, false, false] _ _
      clear gd0 gd1 gd2 gd3 gzero0 gzero1 gzero2 gzero3 gia0 gia1 gia2 gia3
      refine tk (i := 0) (v := ?_) rfl (by kernel_rfl) (fun _ _ _ h => h) (by rfl) ?_ (by assumption) ?_
      rotate_left 1
      · (intro w hSw; (try dsimp only at hSw); go_simp <;> (with_reducible rfl))
      (try simp only [Act.put, List.setIfInBounds_toArray, List.set])
      refine tk (i := 1) (v := ?_) rfl (by kernel_rfl) (fun _ _ _ h => h) (by rfl) ?_ (by assumption) ?_
      rotate_left 1
      · (intro w hSw; (try dsimp only at hSw); go_simp <;> (with_reducible rfl))
      (try simp only [Act.put, List.setIfInBounds_toArray, List.set])
      refine tk (i := 3) (v := ?_) rfl (by kernel_rfl) (fun _ _ _ h => h) (by rfl) ?_ (by assumption) ?_
      rotate_left 1
      · (intro w hSw; (try dsimp only at hSw); go_simp <;> (with_reducible rfl))
      (try simp only [Act.put, List.setIfInBounds_toArray, List.set])
      refine tk (i := 4) (v := ?_) rfl (by kernel_rfl) (fun _ _ _ h => h) (by rfl) ?_ (by assumption) ?_
      rotate_left 1
      · (intro w hSw; (try dsimp only at hSw); go_simp <;> (with_reducible rfl))
      (try simp only [Act.put, List.setIfInBounds_toArray, List.set])
      refine rd1 (i := 2) (by kernel_rfl) rfl (fun K hK => ?_)
      go_simp
      go_at_call 52; have hBd := hB.drew; refine (HC.out _ _ _ (by exact gd) (by exact gz)).mono ?_; rintro e w13 ⟨rfl, hb⟩; replace hb := (Below.refl w12.heap.size w12).drew.trans hb; replace xia := xia.on hb; replace xib := xib.on hb; replace xzero := xzero.on hb; replace xk := xk.on hb; replace xd := xd.on hb; replace xsz := xsz.on hb; replace ia := ia.on hb; replace ib := ib.on hb; replace gz := gz.on hb; replace gk := gk.on hb; replace gd := gd.on hb; replace gg := gg.on hb; replace hB := hB.trans (hb.mono hB.size); have hz13 := hb.size
      (try go_wp2_with fail)
      refine hK.out _ _ (⟨keep4 hb qd hR0.1, keep4 hb qzero hR0.2.1, keep4 hb qia hR0.2.2⟩) (fun hR1 => ?_)
      clear hK K hR0
      (first | ((fail_if_success (unfold Act.put)); (try simp only [List.setIfInBounds_toArray, List.set])) | (try simp only [Act.put, List.setIfInBounds_toArray, List.set]))
      replace qd := Nat.lt_of_lt_of_le qd hz13
      replace qzero := Nat.lt_of_lt_of_le qzero hz13
      replace qia := Nat.lt_of_lt_of_le qia hz13
      clear hb hBd
      refine rd1 (i := 5) (by kernel_rfl) rfl (fun K hK => ?_)
      go_simp
      go_at_call 52; have hBd := hB; refine (HT.out _ _ _ ia gz).mono ?_; rintro e w14 ⟨rfl, hb⟩; replace xia := xia.on hb; replace xib := xib.on hb; replace xzero := xzero.on hb; replace xk := xk.on hb; replace xd := xd.on hb; replace xsz := xsz.on hb; replace ia := ia.on hb; replace ib := ib.on hb; replace gz := gz.on hb; replace gk := gk.on hb; replace gd := gd.on hb; replace gg := gg.on hb; replace hB := hB.trans (hb.mono hB.size); have hz14 := hb.size
      (try go_wp2_with fail)
      refine hK.out _ _ (⟨keep4 hb qd hR1.1, keep4 hb qzero hR1.2.1, keep4 hb qia hR1.2.2⟩) (fun hR2 => ?_)
      clear hK K hR1
      (first | ((fail_if_success (unfold Act.put)); (try simp only [List.setIfInBounds_toArray, List.set])) | (try simp only [Act.put, List.setIfInBounds_toArray, List.set]))
      replace qd := Nat.lt_of_lt_of_le qd hz14
      replace qzero := Nat.lt_of_lt_of_le qzero hz14
      replace qia := Nat.lt_of_lt_of_le qia hz14
      clear hb hBd
      refine tk (i := 6) (v := ?_) rfl (by kernel_rfl) (fun _ _ _ h => h) (by rfl) ?_ (by assumption) ?_
      rotate_left 1
      · (intro w hSw; (try dsimp only at hSw); go_simp <;> (with_reducible rfl))
      (try simp only [Act.put, List.setIfInBounds_toArray, List.set])
      refine tk (i := 7) (v := ?_) rfl (by kernel_rfl) (fun _ _ _ h => h) (by rfl) ?_ (by assumption) ?_
      rotate_left 1
      · (intro w hSw; (try dsimp only at hSw); go_simp <;> (with_reducible rfl))
      (try simp only [Act.put, List.setIfInBounds_toArray, List.set])
      refine wpAnyH_done (by kernel_rfl) ?_ _
      refine NoPanic.normal ?_
      clear hR2
      clear qd qzero qia
      have est := EST.out
      have hL := L3.out (by trivial)
      go_wp2
      go_ret
      exact ⟨by first | rfl | (simp; omega) | simp [hL], hB⟩
    · have h5 := L5.out
      clear h5
      have pia := xia.all4
      have pib := xib.all4
      have pzero := xzero.all4
      have pk := xk.all4
      have pd := xd.all4
      have psz := xsz.all4
      have ltia := xia.lt
      have ltib := xib.lt
      have ltzero := xzero.lt
      have ltk := xk.lt
      have ltd := xd.lt
      have ltsz := xsz.lt
      go_wp2_with fail
      clear ltia
      clear ltib
      clear ltzero
      clear ltk
      clear ltd
      clear ltsz
      clear pia pib pzero pk pd psz
      refine (HU.out _ _ _ gg ib).mono ?_
      rintro e w12 ⟨rfl, hb⟩
      replace xia := xia.on hb
      replace xib := xib.on hb
      replace xzero := xzero.on hb
      replace xk := xk.on hb
      replace xd := xd.on hb
      replace xsz := xsz.on hb
      replace ia := ia.on hb
      replace ib := ib.on hb
      replace gz := gz.on hb
      replace gk := gk.on hb
      replace gd := gd.on hb
      replace gg := gg.on hb
      have hz12 := hb.size
      try simp at hz12
      replace hB := hB.trans (hb.mono hB.size)
      clear hb
      clear kc kl
      have pia := xia.all4
      have pib := xib.all4
      have pzero := xzero.all4
      have pk := xk.all4
      have pd := xd.all4
      have psz := xsz.all4
      have ltia := xia.lt
      have ltib := xib.lt
      have ltzero := xzero.lt
      have ltk := xk.lt
      have ltd := xd.lt
      have ltsz := xsz.lt
      go_wp2_with fail
      clear ltia
      clear ltib
      clear ltzero
      clear ltk
      clear ltd
      clear ltsz
      clear pia pib pzero pk pd psz
      have qd := xd.lt
      have qzero := xzero.lt
      have qia := xia.lt
      obtain ⟨gd0, gd1, gd2, gd3⟩ := xd.cells4
      obtain ⟨gzero0, gzero1, gzero2, gzero3⟩ := xzero.cells4
      obtain ⟨gia0, gia1, gia2, gia3⟩ := xia.cells4
      refine wp_region_noPanic ?_
      refine wp_region_held_drew (S := (fun w' => (w'.cell? ⟨w7.heap.size, 0, none⟩ = some (.bool bx3) ∧ w'.cell? ⟨w7.heap.size, 1, none⟩ = some (.slice ax3 kx3 cx3) ∧ w'.cell? ⟨w7.heap.size, 2, none⟩ = some (.bool dx3) ∧ w'.cell? ⟨w7.heap.size, 3, none⟩ = some (.slice ex3 lx3 mx3)) ∧ (w'.cell? ⟨w2.heap.size, 0, none⟩ = some (.bool bz) ∧ w'.cell? ⟨w2.heap.size, 1, none⟩ = some (.slice az kz cz) ∧ w'.cell? ⟨w2.heap.size, 2, none⟩ = some (.bool dz) ∧ w'.cell? ⟨w2.heap.size, 3, none⟩ = some (.slice ez lz mz)) ∧ w'.cell? ⟨w.heap.size, 0, none⟩ = some (.bool bia) ∧ w'.cell? ⟨w.heap.size, 1, none⟩ = some (.slice aia kia cia) ∧ w'.cell? ⟨w.heap.size, 2, none⟩ = some (.bool dia) ∧ w'.cell? ⟨w.heap.size, 3, none⟩ = some (.slice eia lia mia))) (by kernel_rfl) ⟨⟨gd0, gd1, gd2, gd3⟩, ⟨gzero0, gzero1, gzero2, gzero3⟩, ⟨gia0, gia1, gia2, gia3⟩⟩ (fun hR0 => ?_)
      change wpAnyH _ _ _ _ _ 8 #[false, false, false, false, false, false, false, false] _ _
      clear gd0 gd1 gd2 gd3 gzero0 gzero1 gzero2 gzero3 gia0 gia1 gia2 gia3
      refine tk (i := 0) (v := ?_) rfl (by kernel_rfl) (fun _ _ _ h => h) (by rfl) ?_ (by assumption) ?_
      rotate_left 1
      · (intro w hSw; (try dsimp only at hSw); go_simp <;> (with_reducible rfl))
      (try simp only [Act.put, List.setIfInBounds_toArray, List.set])
      refine tk (i := 1) (v := ?_) rfl (by kernel_rfl) (fun _ _ _ h => h) (by rfl) ?_ (by assumption) ?_
      rotate_left 1
      · (intro w hSw; (try dsimp only at hSw); go_simp <;> (with_reducible rfl))
      (try simp only [Act.put, List.setIfInBounds_toArray, List.set])
      refine tk (i := 3) (v := ?_) rfl (by kernel_rfl) (fun _ _ _ h => h) (by rfl) ?_ (by assumption) ?_
      rotate_left 1
      · (intro w hSw; (try dsimp only at hSw); go_simp <;> (with_reducible rfl))
      (try simp only [Act.put, List.setIfInBounds_toArray, List.set])
      refine tk (i := 4) (v := ?_) rfl (by kernel_rfl) (fun _ _ _ h => h) (by rfl) ?_ (by assumption) ?_
      rotate_left 1
      · (intro w hSw; (try dsimp only at hSw); go_simp <;> (with_reducible rfl))
      (try simp only [Act.put, List.setIfInBounds_toArray, List.set])
      refine rd1 (i := 2) (by kernel_rfl) rfl (fun K hK => ?_)
      go_simp
      go_at_call 52; have hBd := hB.drew; refine (HC.out _ _ _ (by exact gd) (by exact gz)).mono ?_; rintro e w13 ⟨rfl, hb⟩; replace hb := (Below.refl w12.heap.size w12).drew.trans hb; replace xia := xia.on hb; replace xib := xib.on hb; replace xzero := xzero.on hb; replace xk := xk.on hb; replace xd := xd.on hb; replace xsz := xsz.on hb; replace ia := ia.on hb; replace ib := ib.on hb; replace gz := gz.on hb; replace gk := gk.on hb; replace gd := gd.on hb; replace gg := gg.on hb; replace hB := hB.trans (hb.mono hB.size); have hz13 := hb.size
      (try go_wp2_with fail)
      refine hK.out _ _ (⟨keep4 hb qd hR0.1, keep4 hb qzero hR0.2.1, keep4 hb qia hR0.2.2⟩) (fun hR1 => ?_)
      clear hK K hR0
      (first | ((fail_if_success (unfold Act.put)); (try simp only [List.setIfInBounds_toArray, List.set])) | (try simp only [Act.put, List.setIfInBounds_toArray, List.set]))
      replace qd := Nat.lt_of_lt_of_le qd hz13
      replace qzero := Nat.lt_of_lt_of_le qzero hz13
      replace qia := Nat.lt_of_lt_of_le qia hz13
      clear hb hBd
      refine rd1 (i := 5) (by kernel_rfl) rfl (fun K hK => ?_)
      go_simp
      go_at_call 52; have hBd := hB; refine (HT.out _ _ _ ia gz).mono ?_; rintro e w14 ⟨rfl, hb⟩; replace xia := xia.on hb; replace xib := xib.on hb; replace xzero := xzero.on hb; replace xk := xk.on hb; replace xd := xd.on hb; replace xsz := xsz.on hb; replace ia := ia.on hb; replace ib := ib.on hb; replace gz := gz.on hb; replace gk := gk.on hb; replace gd := gd.on hb; replace gg := gg.on hb; replace hB := hB.trans (hb.mono hB.size); have hz14 := hb.size
      (try go_wp2_with fail)
      refine hK.out _ _ (⟨keep4 hb qd hR1.1, keep4 hb qzero hR1.2.1, keep4 hb qia hR1.2.2⟩) (fun hR2 => ?_)
      clear hK K hR1
      (first | ((fail_if_success (unfold Act.put)); (try simp only [List.setIfInBounds_toArray, List.set])) | (try simp only [Act.put, List.setIfInBounds_toArray, List.set]))
      replace qd := Nat.lt_of_lt_of_le qd hz14
      replace qzero := Nat.lt_of_lt_of_le qzero hz14
      replace qia := Nat.lt_of_lt_of_le qia hz14
      clear hb hBd
      refine tk (i := 6) (v := ?_) rfl (by kernel_rfl) (fun _ _ _ h => h) (by rfl) ?_ (by assumption) ?_
      rotate_left 1
      · (intro w hSw; (try dsimp only at hSw); go_simp <;> (with_reducible rfl))
      (try simp only [Act.put, List.setIfInBounds_toArray, List.set])
      refine tk (i := 7) (v := ?_) rfl (by kernel_rfl) (fun _ _ _ h => h) (by rfl) ?_ (by assumption) ?_
      rotate_left 1
      · (intro w hSw; (try dsimp only at hSw); go_simp <;> (with_reducible rfl))
      (try simp only [Act.put, List.setIfInBounds_toArray, List.set])
      refine wpAnyH_done (by kernel_rfl) ?_ _
      refine NoPanic.normal ?_
      clear hR2
      clear qd qzero qia
      have est := EST.out
      have hL := L4.out (by trivial)
      go_wp2
      go_ret
      exact ⟨by first | rfl | (simp; omega) | simp [hL], hB⟩
    · have h5 := L5.out
      replace h5 := h5 (by first | trivial | decide)
      have pia := xia.all4
      have pib := xib.all4
      have pzero := xzero.all4
      have pk := xk.all4
      have pd := xd.all4
      have psz := xsz.all4
      have ltia := xia.lt
      have ltib := xib.lt
      have ltzero := xzero.lt
      have ltk := xk.lt
      have ltd := xd.lt
      have ltsz := xsz.lt
      go_wp2_with fail
      clear ltia
      clear ltib
      clear ltzero
      clear ltk
      clear ltd
      clear ltsz
      clear pia pib pzero pk pd psz
      refine (HU.out _ _ _ gg ib).mono ?_
      rintro e w12 ⟨rfl, hb⟩
      replace xia := xia.on hb
      replace xib := xib.on hb
      replace xzero := xzero.on hb
      replace xk := xk.on hb
      replace xd := xd.on hb
      replace xsz := xsz.on hb
      replace ia := ia.on hb
      replace ib := ib.on hb
      replace gz := gz.on hb
      replace gk := gk.on hb
      replace gd := gd.on hb
      replace gg := gg.on hb
      have hz12 := hb.size
      try simp at hz12
      replace hB := hB.trans (hb.mono hB.size)
      clear hb
      clear kc kl
      have pia := xia.all4
      have pib := xib.all4
      have pzero := xzero.all4
      have pk := xk.all4
      have pd := xd.all4
      have psz := xsz.all4
      have ltia := xia.lt
      have ltib := xib.lt
      have ltzero := xzero.lt
      have ltk := xk.lt
      have ltd := xd.lt
      have ltsz := xsz.lt
      go_wp2_with fail
      clear ltia
      clear ltib
      clear ltzero
      clear ltk
      clear ltd
      clear ltsz
      clear pia pib pzero pk pd psz
      have qd := xd.lt
      have qzero := xzero.lt
      have qia := xia.lt
      obtain ⟨gd0, gd1, gd2, gd3⟩ := xd.cells4
      obtain ⟨gzero0, gzero1, gzero2, gzero3⟩ := xzero.cells4
      obtain ⟨gia0, gia1, gia2, gia3⟩ := xia.cells4
      refine wp_region_noPanic ?_
      refine wp_region_held_drew (S := (fun w' => (w'.cell? ⟨w7.heap.size, 0, none⟩ = some (.bool bx3) ∧ w'.cell? ⟨w7.heap.size, 1, none⟩ = some (.slice ax3 kx3 cx3) ∧ w'.cell? ⟨w7.heap.size, 2, none⟩ = some (.bool dx3) ∧ w'.cell? ⟨w7.heap.size, 3, none⟩ = some (.slice ex3 lx3 mx3)) ∧ (w'.cell? ⟨w2.heap.size, 0, none⟩ = some (.bool bz) ∧ w'.cell? ⟨w2.heap.size, 1, none⟩ = some (.slice az kz cz) ∧ w'.cell? ⟨w2.heap.size, 2, none⟩ = some (.bool dz) ∧ w'.cell? ⟨w2.heap.size, 3, none⟩ = some (.slice ez lz mz)) ∧ w'.cell? ⟨w.heap.size, 0, none⟩ = some (.bool bia) ∧ w'.cell? ⟨w.heap.size, 1, none⟩ = some (.slice aia kia cia) ∧ w'.cell? ⟨w.heap.size, 2, none⟩ = some (.bool dia) ∧ w'.cell? ⟨w.heap.size, 3, none⟩ = some (.slice eia lia mia))) (by kernel_rfl) ⟨⟨gd0, gd1, gd2, gd3⟩, ⟨gzero0, gzero1, gzero2, gzero3⟩, ⟨gia0, gia1, gia2, gia3⟩⟩ (fun hR0 => ?_)
      change wpAnyH _ _ _ _ _ 8 #[false, false, false, false, false, false, false, false] _ _
      clear gd0 gd1 gd2 gd3 gzero0 gzero1 gzero2 gzero3 gia0 gia1 gia2 gia3
      refine tk (i := 0) (v := ?_) rfl (by kernel_rfl) (fun _ _ _ h => h) (by rfl) ?_ (by assumption) ?_
      rotate_left 1
      · (intro w hSw; (try dsimp only at hSw); go_simp <;> (with_reducible rfl))
      (try simp only [Act.put, List.setIfInBounds_toArray, List.set])
      refine tk (i := 1) (v := ?_) rfl (by kernel_rfl) (fun _ _ _ h => h) (by rfl) ?_ (by assumption) ?_
      rotate_left 1
      · (intro w hSw; (try dsimp only at hSw); go_simp <;> (with_reducible rfl))
      (try simp only [Act.put, List.setIfInBounds_toArray, List.set])
      refine tk (i := 3) (v := ?_) rfl (by kernel_rfl) (fun _ _ _ h => h) (by rfl) ?_ (by assumption) ?_
      rotate_left 1
      · (intro w hSw; (try dsimp only at hSw); go_simp <;> (with_reducible rfl))
      (try simp only [Act.put, List.setIfInBounds_toArray, List.set])
      refine tk (i := 4) (v := ?_) rfl (by kernel_rfl) (fun _ _ _ h => h) (by rfl) ?_ (by assumption) ?_
      rotate_left 1
      · (intro w hSw; (try dsimp only at hSw); go_simp <;> (with_reducible rfl))
      (try simp only [Act.put, List.setIfInBounds_toArray, List.set])
      refine rd1 (i := 2) (by kernel_rfl) rfl (fun K hK => ?_)
      go_simp
      go_at_call 52; have hBd := hB.drew; refine (HC.out _ _ _ (by exact gd) (by exact gz)).mono ?_; rintro e w13 ⟨rfl, hb⟩; replace hb := (Below.refl w12.heap.size w12).drew.trans hb; replace xia := xia.on hb; replace xib := xib.on hb; replace xzero := xzero.on hb; replace xk := xk.on hb; replace xd := xd.on hb; replace xsz := xsz.on hb; replace ia := ia.on hb; replace ib := ib.on hb; replace gz := gz.on hb; replace gk := gk.on hb; replace gd := gd.on hb; replace gg := gg.on hb; replace hB := hB.trans (hb.mono hB.size); have hz13 := hb.size
      (try go_wp2_with fail)
      refine hK.out _ _ (⟨keep4 hb qd hR0.1, keep4 hb qzero hR0.2.1, keep4 hb qia hR0.2.2⟩) (fun hR1 => ?_)
      clear hK K hR0
      (first | ((fail_if_success (unfold Act.put)); (try simp only [List.setIfInBounds_toArray, List.set])) | (try simp only [Act.put, List.setIfInBounds_toArray, List.set]))
      replace qd := Nat.lt_of_lt_of_le qd hz13
      replace qzero := Nat.lt_of_lt_of_le qzero hz13
      replace qia := Nat.lt_of_lt_of_le qia hz13
      clear hb hBd
      refine rd1 (i := 5) (by kernel_rfl) rfl (fun K hK => ?_)
      go_simp
      go_at_call 52; have hBd := hB; refine (HT.out _ _ _ ia gz).mono ?_; rintro e w14 ⟨rfl, hb⟩; replace xia := xia.on hb; replace xib := xib.on hb; replace xzero := xzero.on hb; replace xk := xk.on hb; replace xd := xd.on hb; replace xsz := xsz.on hb; replace ia := ia.on hb; replace ib := ib.on hb; replace gz := gz.on hb; replace gk := gk.on hb; replace gd := gd.on hb; replace gg := gg.on hb; replace hB := hB.trans (hb.mono hB.size); have hz14 := hb.size
      (try go_wp2_with fail)
      refine hK.out _ _ (⟨keep4 hb qd hR1.1, keep4 hb qzero hR1.2.1, keep4 hb qia hR1.2.2⟩) (fun hR2 => ?_)
      clear hK K hR1
      (first | ((fail_if_success (unfold Act.put)); (try simp only [List.setIfInBounds_toArray, List.set])) | (try simp only [Act.put, List.setIfInBounds_toArray, List.set]))
      replace qd := Nat.lt_of_lt_of_le qd hz14
      replace qzero := Nat.lt_of_lt_of_le qzero hz14
      replace qia := Nat.lt_of_lt_of_le qia hz14
      clear hb hBd
      refine tk (i := 6) (v := ?_) rfl (by kernel_rfl) (fun _ _ _ h => h) (by rfl) ?_ (by assumption) ?_
      rotate_left 1
      · (intro w hSw; (try dsimp only at hSw); go_simp <;> (with_reducible rfl))
      (try simp only [Act.put, List.setIfInBounds_toArray, List.set])
      refine tk (i := 7) (v := ?_) rfl (by kernel_rfl) (fun _ _ _ h => h) (by rfl) ?_ (by assumption) ?_
      rotate_left 1
      · (intro w hSw; (try dsimp only at hSw); go_simp <;> (with_reducible rfl))
      (try simp only [Act.put, List.setIfInBounds_toArray, List.set])
      refine wpAnyH_done (by kernel_rfl) ?_ _
      refine NoPanic.normal ?_
      clear hR2
      clear qd qzero qia
      have est := EST.out
      by_cases ho : o < 0
      · go_wp2; go_ret; exact ⟨by first | rfl | simp [ho], hB⟩
      · have hL := (L6.out (by trivial)).resolve_left ho; subst hL; go_wp2; go_ret; exact ⟨by first | rfl | simp, hB⟩
    · have h5 := L5.out
      replace h5 := h5 (by first | trivial | decide)
      have pia := xia.all4
      have pib := xib.all4
      have pzero := xzero.all4
      have pk := xk.all4
      have pd := xd.all4
      have psz := xsz.all4
      have ltia := xia.lt
      have ltib := xib.lt
      have ltzero := xzero.lt
      have ltk := xk.lt
      have ltd := xd.lt
      have ltsz := xsz.lt
      go_wp2_with fail
      clear ltia
      clear ltib
      clear ltzero
      clear ltk
      clear ltd
      clear ltsz
      clear pia pib pzero pk pd psz
      refine (HU.out _ _ _ gg ib).mono ?_
      rintro e w12 ⟨rfl, hb⟩
      replace xia := xia.on hb
      replace xib := xib.on hb
      replace xzero := xzero.on hb
      replace xk := xk.on hb
      replace xd := xd.on hb
      replace xsz := xsz.on hb
      replace ia := ia.on hb
      replace ib := ib.on hb
      replace gz := gz.on hb
      replace gk := gk.on hb
      replace gd := gd.on hb
      replace gg := gg.on hb
      have hz12 := hb.size
      try simp at hz12
      replace hB := hB.trans (hb.mono hB.size)
      clear hb
      clear kc kl
      have pia := xia.all4
      have pib := xib.all4
      have pzero := xzero.all4
      have pk := xk.all4
      have pd := xd.all4
      have psz := xsz.all4
      have ltia := xia.lt
      have ltib := xib.lt
      have ltzero := xzero.lt
      have ltk := xk.lt
      have ltd := xd.lt
      have ltsz := xsz.lt
      go_wp2_with fail
      clear ltia
      clear ltib
      clear ltzero
      clear ltk
      clear ltd
      clear ltsz
      clear pia pib pzero pk pd psz
      have qd := xd.lt
      have qzero := xzero.lt
      have qia := xia.lt
      obtain ⟨gd0, gd1, gd2, gd3⟩ := xd.cells4
      obtain ⟨gzero0, gzero1, gzero2, gzero3⟩ := xzero.cells4
      obtain ⟨gia0, gia1, gia2, gia3⟩ := xia.cells4
      refine wp_region_noPanic ?_
      refine wp_region_held_drew (S := (fun w' => (w'.cell? ⟨w7.heap.size, 0, none⟩ = some (.bool bx3) ∧ w'.cell? ⟨w7.heap.size, 1, none⟩ = some (.slice ax3 kx3 cx3) ∧ w'.cell? ⟨w7.heap.size, 2, none⟩ = some (.bool dx3) ∧ w'.cell? ⟨w7.heap.size, 3, none⟩ = some (.slice ex3 lx3 mx3)) ∧ (w'.cell? ⟨w2.heap.size, 0, none⟩ = some (.bool bz) ∧ w'.cell? ⟨w2.heap.size, 1, none⟩ = some (.slice az kz cz) ∧ w'.cell? ⟨w2.heap.size, 2, none⟩ = some (.bool dz) ∧ w'.cell? ⟨w2.heap.size, 3, none⟩ = some (.slice ez lz mz)) ∧ w'.cell? ⟨w.heap.size, 0, none⟩ = some (.bool bia) ∧ w'.cell? ⟨w.heap.size, 1, none⟩ = some (.slice aia kia cia) ∧ w'.cell? ⟨w.heap.size, 2, none⟩ = some (.bool dia) ∧ w'.cell? ⟨w.heap.size, 3, none⟩ = some (.slice eia lia mia))) (by kernel_rfl) ⟨⟨gd0, gd1, gd2, gd3⟩, ⟨gzero0, gzero1, gzero2, gzero3⟩, ⟨gia0, gia1, gia2, gia3⟩⟩ (fun hR0 => ?_)
      change wpAnyH _ _ _ _ _ 8 #[false, false, false, false, false, false, false, false] _ _
      clear gd0 gd1 gd2 gd3 gzero0 gzero1 gzero2 gzero3 gia0 gia1 gia2 gia3
      refine tk (i := 0) (v := ?_) rfl (by kernel_rfl) (fun _ _ _ h => h) (by rfl) ?_ (by assumption) ?_
      rotate_left 1
      · (intro w hSw; (try dsimp only at hSw); go_simp <;> (with_reducible rfl))
      (try simp only [Act.put, List.setIfInBounds_toArray, List.set])
      refine tk (i := 1) (v := ?_) rfl (by kernel_rfl) (fun _ _ _ h => h) (by rfl) ?_ (by assumption) ?_
      rotate_left 1
      · (intro w hSw; (try dsimp only at hSw); go_simp <;> (with_reducible rfl))
      (try simp only [Act.put, List.setIfInBounds_toArray, List.set])
      refine tk (i := 3) (v := ?_) rfl (by kernel_rfl) (fun _ _ _ h => h) (by rfl) ?_ (by assumption) ?_
      rotate_left 1
      · (intro w hSw; (try dsimp only at hSw); go_simp <;> (with_reducible rfl))
      (try simp only [Act.put, List.setIfInBounds_toArray, List.set])
      refine tk (i := 4) (v := ?_) rfl (by kernel_rfl) (fun _ _ _ h => h) (by rfl) ?_ (by assumption) ?_
      rotate_left 1
      · (intro w hSw; (try dsimp only at hSw); go_simp <;> (with_reducible rfl))
      (try simp only [Act.put, List.setIfInBounds_toArray, List.set])
      refine rd1 (i := 2) (by kernel_rfl) rfl (fun K hK => ?_)
      go_simp
      go_at_call 52; have hBd := hB.drew; refine (HC.out _ _ _ (by exact gd) (by exact gz)).mono ?_; rintro e w13 ⟨rfl, hb⟩; replace hb := (Below.refl w12.heap.size w12).drew.trans hb; replace xia := xia.on hb; replace xib := xib.on hb; replace xzero := xzero.on hb; replace xk := xk.on hb; replace xd := xd.on hb; replace xsz := xsz.on hb; replace ia := ia.on hb; replace ib := ib.on hb; replace gz := gz.on hb; replace gk := gk.on hb; replace gd := gd.on hb; replace gg := gg.on hb; replace hB := hB.trans (hb.mono hB.size); have hz13 := hb.size
      (try go_wp2_with fail)
      refine hK.out _ _ (⟨keep4 hb qd hR0.1, keep4 hb qzero hR0.2.1, keep4 hb qia hR0.2.2⟩) (fun hR1 => ?_)
      clear hK K hR0
      (first | ((fail_if_success (unfold Act.put)); (try simp only [List.setIfInBounds_toArray, List.set])) | (try simp only [Act.put, List.setIfInBounds_toArray, List.set]))
      replace qd := Nat.lt_of_lt_of_le qd hz13
      replace qzero := Nat.lt_of_lt_of_le qzero hz13
      replace qia := Nat.lt_of_lt_of_le qia hz13
      clear hb hBd
      refine rd1 (i := 5) (by kernel_rfl) rfl (fun K hK => ?_)
      go_simp
      go_at_call 52; have hBd := hB; refine (HT.out _ _ _ ia gz).mono ?_; rintro e w14 ⟨rfl, hb⟩; replace xia := xia.on hb; replace xib := xib.on hb; replace xzero := xzero.on hb; replace xk := xk.on hb; replace xd := xd.on hb; replace xsz := xsz.on hb; replace ia := ia.on hb; replace ib := ib.on hb; replace gz := gz.on hb; replace gk := gk.on hb; replace gd := gd.on hb; replace gg := gg.on hb; replace hB := hB.trans (hb.mono hB.size); have hz14 := hb.size
      (try go_wp2_with fail)
      refine hK.out _ _ (⟨keep4 hb qd hR1.1, keep4 hb qzero hR1.2.1, keep4 hb qia hR1.2.2⟩) (fun hR2 => ?_)
      clear hK K hR1
      (first | ((fail_if_success (unfold Act.put)); (try simp only [List.setIfInBounds_toArray, List.set])) | (try simp only [Act.put, List.setIfInBounds_toArray, List.set]))
      replace qd := Nat.lt_of_lt_of_le qd hz14
      replace qzero := Nat.lt_of_lt_of_le qzero hz14
      replace qia := Nat.lt_of_lt_of_le qia hz14
      clear hb hBd
      refine tk (i := 6) (v := ?_) rfl (by kernel_rfl) (fun _ _ _ h => h) (by rfl) ?_ (by assumption) ?_
      rotate_left 1
      · (intro w hSw; (try dsimp only at hSw); go_simp <;> (with_reducible rfl))
      (try simp only [Act.put, List.setIfInBounds_toArray, List.set])
      refine tk (i := 7) (v := ?_) rfl (by kernel_rfl) (fun _ _ _ h => h) (by rfl) ?_ (by assumption) ?_
      rotate_left 1
      · (intro w hSw; (try dsimp only at hSw); go_simp <;> (with_reducible rfl))
      (try simp only [Act.put, List.setIfInBounds_toArray, List.set])
      refine wpAnyH_done (by kernel_rfl) ?_ _
      refine NoPanic.normal ?_
      clear hR2
      clear qd qzero qia
      have est := EST.out
      by_cases ho : o < 0
      · go_wp2; go_ret; exact ⟨by first | rfl | simp [ho], hB⟩
      · have hL := (L7.out (by first | trivial | decide)).resolve_left ho
        obtain ⟨-, -, nk, -⟩ := fra_nums gk
        rw [Rat.num_intCast] at nk
        have hk := num_lim nk
        have hkl := (num_len nk).1
        cases hd0 : dig f.natAbs with
        | nil =>
          rw [hd0, List.length_nil] at hkl
          subst hkl
          have pia := xia.all4
          have pib := xib.all4
          have pzero := xzero.all4
          have pk := xk.all4
          have pd := xd.all4
          have psz := xsz.all4
          have ltia := xia.lt
          have ltib := xib.lt
          have ltzero := xzero.lt
          have ltk := xk.lt
          have ltd := xd.lt
          have ltsz := xsz.lt
          go_wp2
          go_ret
          exact ⟨by first | rfl | simp, hB⟩
        | cons x0 xs =>
          rw [hd0] at hk hkl
          obtain ⟨nb, no, rfl⟩ := lim_addr hk (by simp)
          have nc := cell_of_lim hk 0 (by simp)
          have nx : (x0 :: xs : List Nat)[0]?.getD 0 = x0 := rfl
          rw [nx] at nc
          simp only [Nat.add_zero] at nc
          have nl := lt_of_cell nc
          have hv := val_dig f.natAbs
          rw [hd0] at hv
          have hx : x0 % 2 = 0 := even_head hv hL
          have hx2 : IntKind.u16.wrap (Int.tmod (x0 : Int) 2) = 0 := by rw [Int.tmod_eq_emod_of_nonneg (by omega), show (x0 : Int) % 2 = 0 by omega]; decide
          have hk2 : ((kx2 : Int) == 0) = false := by rw [beq_eq_false_iff_ne, hkl]; simp; omega
          have pia := xia.all4
          have pib := xib.all4
          have pzero := xzero.all4
          have pk := xk.all4
          have pd := xd.all4
          have psz := xsz.all4
          have ltia := xia.lt
          have ltib := xib.lt
          have ltzero := xzero.lt
          have ltk := xk.lt
          have ltd := xd.lt
          have ltsz := xsz.lt
          go_wp2
          go_ret
          exact ⟨by first | rfl | (simp; done) | (simp; omega), hB⟩
  · obtain ⟨hc1, hc2⟩ := HQ.out (by first | exact hsg | omega)
    obtain ⟨fu, fd, fg, fdd, fgg⟩ := HFs.out
    have HU := Lib.hid (fun va vb W (h : Fra W va d) (k : Fra W vb u) => frCmp_lit va vb d u (-1) hc1 fd fu W h k)
    have HK := Lib.hid (fun va vb W (h : Fra W va (d + d)) (k : Fra W vb u) => frCmp_lit va vb (d + d) u o hc2 fdd fu W h k)
    clear hc1 hc2 fu fd fg fdd fgg
    have pia := xia.all4
    have pib := xib.all4
    have pzero := xzero.all4
    have pk := xk.all4
    have pd := xd.all4
    have psz := xsz.all4
    have ltia := xia.lt
    have ltib := xib.lt
    have ltzero := xzero.lt
    have ltk := xk.lt
    have ltd := xd.lt
    have ltsz := xsz.lt
    go_wp2_with fail
    clear ltia
    clear ltib
    clear ltzero
    clear ltk
    clear ltd
    clear ltsz
    clear pia pib pzero pk pd psz
    obtain ⟨wt, hwt⟩ : ∃ W, W = w8 := ⟨_, rfl⟩
    rw [← hwt] at hB xia xib xzero xk xd xsz ia ib gz gk gd ⊢
    clear hwt
    have qsz := xsz.lt
    have qib := xib.lt
    obtain ⟨gsz0, gsz1, gsz2, gsz3⟩ := xsz.cells4
    obtain ⟨gib0, gib1, gib2, gib3⟩ := xib.cells4
    refine wp_region_noPanic ?_
    refine wp_region_held_drew (S := (fun w' => (w'.cell? ⟨w7.heap.size + 1, 0, none⟩ = some (.bool bx3) ∧ w'.cell? ⟨w7.heap.size + 1, 1, none⟩ = some (.slice ax3 kx3 cx3) ∧ w'.cell? ⟨w7.heap.size + 1, 2, none⟩ = some (.bool dx3) ∧ w'.cell? ⟨w7.heap.size + 1, 3, none⟩ = some (.slice ex3 lx3 mx3)) ∧ w'.cell? ⟨w.heap.size + 1, 0, none⟩ = some (.bool bib) ∧ w'.cell? ⟨w.heap.size + 1, 1, none⟩ = some (.slice aib kib cib) ∧ w'.cell? ⟨w.heap.size + 1, 2, none⟩ = some (.bool dib) ∧ w'.cell? ⟨w.heap.size + 1, 3, none⟩ = some (.slice eib lib mib))) (by kernel_rfl) ⟨⟨gsz0, gsz1, gsz2, gsz3⟩, ⟨gib0, gib1, gib2, gib3⟩⟩ (fun hR0 => ?_)
    change wpAnyH _ _ _ _ _ 6 #[false, false, false, false, false, false] _ _
    clear gsz0 gsz1 gsz2 gsz3 gib0 gib1 gib2 gib3
    refine tk (i := 0) (v := ?_) rfl (by kernel_rfl) (fun _ _ _ h => h) (by rfl) ?_ (by assumption) ?_
    rotate_left 1
    · (intro w hSw; (try dsimp only at hSw); go_simp <;> (with_reducible rfl))
    (try simp only [Act.put, List.setIfInBounds_toArray, List.set])
    refine tk (i := 1) (v := ?_) rfl (by kernel_rfl) (fun _ _ _ h => h) (by rfl) ?_ (by assumption) ?_
    rotate_left 1
    · (intro w hSw; (try dsimp only at hSw); go_simp <;> (with_reducible rfl))
    (try simp only [Act.put, List.setIfInBounds_toArray, List.set])
    refine tk (i := 3) (v := ?_) rfl (by kernel_rfl) (fun _ _ _ h => h) (by rfl) ?_ (by assumption) ?_
    rotate_left 1
    · (intro w hSw; (try dsimp only at hSw); go_simp <;> (with_reducible rfl))
    (try simp only [Act.put, List.setIfInBounds_toArray, List.set])
    refine rd1 (i := 2) (by kernel_rfl) rfl (fun K hK => ?_)
    go_simp
    go_at_call 44; have hBd := hB.drew; refine (HSd.out _ _ _ (by exact gd) (by exact gd)).mono ?_; rintro e w9 ⟨⟨v5, rfl, g5⟩, hb⟩; replace hb := (Below.refl wt.heap.size wt).drew.trans hb; replace xia := xia.on hb; replace xib := xib.on hb; replace xzero := xzero.on hb; replace xk := xk.on hb; replace xd := xd.on hb; replace xsz := xsz.on hb; replace ia := ia.on hb; replace ib := ib.on hb; replace gz := gz.on hb; replace gk := gk.on hb; replace gd := gd.on hb; replace hB := hB.trans (hb.mono hB.size); have hz9 := hb.size
    (try go_wp2_with fail)
    refine hK.out _ _ (⟨keep4 hb qsz hR0.1, keep4 hb qib hR0.2⟩) (fun hR1 => ?_)
    clear hK K hR0
    (first | ((fail_if_success (unfold Act.put)); (try simp only [List.setIfInBounds_toArray, List.set])) | (try simp only [Act.put, List.setIfInBounds_toArray, List.set]))
    replace qsz := Nat.lt_of_lt_of_le qsz hz9
    replace qib := Nat.lt_of_lt_of_le qib hz9
    clear hb hBd
    refine rd1 (i := 4) (by kernel_rfl) rfl (fun K hK => ?_)
    go_simp
    go_at_call 52; have hBd := hB; refine (HK.out _ _ _ g5 ib).mono ?_; rintro e w10 ⟨rfl, hb⟩; replace xia := xia.on hb; replace xib := xib.on hb; replace xzero := xzero.on hb; replace xk := xk.on hb; replace xd := xd.on hb; replace xsz := xsz.on hb; replace ia := ia.on hb; replace ib := ib.on hb; replace gz := gz.on hb; replace gk := gk.on hb; replace gd := gd.on hb; replace g5 := g5.on hb; replace hB := hB.trans (hb.mono hB.size); have hz10 := hb.size
    (try go_wp2_with fail)
    refine hK.out _ _ (⟨keep4 hb qsz hR1.1, keep4 hb qib hR1.2⟩) (fun hR2 => ?_)
    clear hK K hR1
    (first | ((fail_if_success (unfold Act.put)); (try simp only [List.setIfInBounds_toArray, List.set])) | (try simp only [Act.put, List.setIfInBounds_toArray, List.set]))
    replace qsz := Nat.lt_of_lt_of_le qsz hz10
    replace qib := Nat.lt_of_lt_of_le qib hz10
    clear hb hBd
    refine tk (i := 5) (v := ?_) rfl (by kernel_rfl) (fun _ _ _ h => h) (by rfl) ?_ (by assumption) ?_
    rotate_left 1
    · (intro w hSw; (try dsimp only at hSw); go_simp <;> (with_reducible rfl))
    (try simp only [Act.put, List.setIfInBounds_toArray, List.set])
    refine wpAnyH_done (by kernel_rfl) ?_ _
    refine NoPanic.normal ?_
    clear hR2
    clear qsz qib
    clear g5
    have hm6 : m = 1 ∨ m = 2 ∨ m = 3 ∨ m = 4 ∨ m = 5 ∨ m = 6 := by have := HM.out; omega
    obtain ⟨-, -, -, nk⟩ := fra_nums gk
    have hk := num_lim' nk
    rw [Rat.den_intCast, dig_one] at hk
    obtain rfl : lx2 = 1 := by have := (num_len nk).1; rw [Rat.den_intCast] at this; rw [this]; decide +kernel
    obtain ⟨kb, ko, rfl⟩ := lim_addr hk (by simp)
    have kc := cell_of_lim hk 0 (by simp)
    have kx : ([1] : List Nat)[0]?.getD 0 = 1 := rfl
    rw [kx] at kc
    simp only [Nat.add_zero, Int.natCast_one] at kc
    have kl := lt_of_cell kc
    clear nk hk kx
    rcases hm6 with rfl | rfl | rfl | rfl | rfl | rfl
    · have h5 := L5.out
      clear h5
      have pia := xia.all4
      have pib := xib.all4
      have pzero := xzero.all4
      have pk := xk.all4
      have pd := xd.all4
      have psz := xsz.all4
      have ltia := xia.lt
      have ltib := xib.lt
      have ltzero := xzero.lt
      have ltk := xk.lt
      have ltd := xd.lt
      have ltsz := xsz.lt
      go_wp2_with fail
      clear ltia
      clear ltib
      clear ltzero
      clear ltk
      clear ltd
      clear ltsz
      clear pia pib pzero pk pd psz
      refine (HU.out _ _ _ gd ib).mono ?_
      rintro e w11 ⟨rfl, hb⟩
      replace xia := xia.on hb
      replace xib := xib.on hb
      replace xzero := xzero.on hb
      replace xk := xk.on hb
      replace xd := xd.on hb
      replace xsz := xsz.on hb
      replace ia := ia.on hb
      replace ib := ib.on hb
      replace gz := gz.on hb
      replace gk := gk.on hb
      replace gd := gd.on hb
      have hz11 := hb.size
      try simp at hz11
      replace hB := hB.trans (hb.mono hB.size)
      clear hb
      clear kc kl
      have pia := xia.all4
      have pib := xib.all4
      have pzero := xzero.all4
      have pk := xk.all4
      have pd := xd.all4
      have psz := xsz.all4
      have ltia := xia.lt
      have ltib := xib.lt
      have ltzero := xzero.lt
      have ltk := xk.lt
      have ltd := xd.lt
      have ltsz := xsz.lt
      go_wp2_with fail
      clear ltia
      clear ltib
      clear ltzero
      clear ltk
      clear ltd
      clear ltsz
      clear pia pib pzero pk pd psz
      have qd := xd.lt
      have qzero := xzero.lt
      have qia := xia.lt
      obtain ⟨gd0, gd1, gd2, gd3⟩ := xd.cells4
      obtain ⟨gzero0, gzero1, gzero2, gzero3⟩ := xzero.cells4
      obtain ⟨gia0, gia1, gia2, gia3⟩ := xia.cells4
      refine wp_region_noPanic ?_
      refine wp_region_held_drew (S := (fun w' => (w'.cell? ⟨w7.heap.size, 0, none⟩ = some (.bool bx3) ∧ w'.cell? ⟨w7.heap.size, 1, none⟩ = some (.slice ax3 kx3 cx3) ∧ w'.cell? ⟨w7.heap.size, 2, none⟩ = some (.bool dx3) ∧ w'.cell? ⟨w7.heap.size, 3, none⟩ = some (.slice ex3 lx3 mx3)) ∧ (w'.cell? ⟨w2.heap.size, 0, none⟩ = some (.bool bz) ∧ w'.cell? ⟨w2.heap.size, 1, none⟩ = some (.slice az kz cz) ∧ w'.cell? ⟨w2.heap.size, 2, none⟩ = some (.bool dz) ∧ w'.cell? ⟨w2.heap.size, 3, none⟩ = some (.slice ez lz mz)) ∧ w'.cell? ⟨w.heap.size, 0, none⟩ = some (.bool bia) ∧ w'.cell? ⟨w.heap.size, 1, none⟩ = some (.slice aia kia cia) ∧ w'.cell? ⟨w.heap.size, 2, none⟩ = some (.bool dia) ∧ w'.cell? ⟨w.heap.size, 3, none⟩ = some (.slice eia lia mia))) (by kernel_rfl) ⟨⟨gd0, gd1, gd2, gd3⟩, ⟨gzero0, gzero1, gzero2, gzero3⟩, ⟨gia0, gia1, gia2, gia3⟩⟩ (fun hR0 => ?_)
      change wpAnyH _ _ _ _ _ 8 #[false, false, false, false, false, false, false, false] _ _
      clear gd0 gd1 gd2 gd3 gzero0 gzero1 gzero2 gzero3 gia0 gia1 gia2 gia3
      refine tk (i := 0) (v := ?_) rfl (by kernel_rfl) (fun _ _ _ h => h) (by rfl) ?_ (by assumption) ?_
      rotate_left 1
      · (intro w hSw; (try dsimp only at hSw); go_simp <;> (with_reducible rfl))
      (try simp only [Act.put, List.setIfInBounds_toArray, List.set])
      refine tk (i := 1) (v := ?_) rfl (by kernel_rfl) (fun _ _ _ h => h) (by rfl) ?_ (by assumption) ?_
      rotate_left 1
      · (intro w hSw; (try dsimp only at hSw); go_simp <;> (with_reducible rfl))
      (try simp only [Act.put, List.setIfInBounds_toArray, List.set])
      refine tk (i := 3) (v := ?_) rfl (by kernel_rfl) (fun _ _ _ h => h) (by rfl) ?_ (by assumption) ?_
      rotate_left 1
      · (intro w hSw; (try dsimp only at hSw); go_simp <;> (with_reducible rfl))
      (try simp only [Act.put, List.setIfInBounds_toArray, List.set])
      refine tk (i := 4) (v := ?_) rfl (by kernel_rfl) (fun _ _ _ h => h) (by rfl) ?_ (by assumption) ?_
      rotate_left 1
      · (intro w hSw; (try dsimp only at hSw); go_simp <;> (with_reducible rfl))
      (try simp only [Act.put, List.setIfInBounds_toArray, List.set])
      refine rd1 (i := 2) (by kernel_rfl) rfl (fun K hK => ?_)
      go_simp
      go_at_call 52; have hBd := hB.drew; refine (HC.out _ _ _ (by exact gd) (by exact gz)).mono ?_; rintro e w12 ⟨rfl, hb⟩; replace hb := (Below.refl w11.heap.size w11).drew.trans hb; replace xia := xia.on hb; replace xib := xib.on hb; replace xzero := xzero.on hb; replace xk := xk.on hb; replace xd := xd.on hb; replace xsz := xsz.on hb; replace ia := ia.on hb; replace ib := ib.on hb; replace gz := gz.on hb; replace gk := gk.on hb; replace gd := gd.on hb; replace hB := hB.trans (hb.mono hB.size); have hz12 := hb.size
      (try go_wp2_with fail)
      refine hK.out _ _ (⟨keep4 hb qd hR0.1, keep4 hb qzero hR0.2.1, keep4 hb qia hR0.2.2⟩) (fun hR1 => ?_)
      clear hK K hR0
      (first | ((fail_if_success (unfold Act.put)); (try simp only [List.setIfInBounds_toArray, List.set])) | (try simp only [Act.put, List.setIfInBounds_toArray, List.set]))
      replace qd := Nat.lt_of_lt_of_le qd hz12
      replace qzero := Nat.lt_of_lt_of_le qzero hz12
      replace qia := Nat.lt_of_lt_of_le qia hz12
      clear hb hBd
      refine rd1 (i := 5) (by kernel_rfl) rfl (fun K hK => ?_)
      go_simp
      go_at_call 52; have hBd := hB; refine (HT.out _ _ _ ia gz).mono ?_; rintro e w13 ⟨rfl, hb⟩; replace xia := xia.on hb; replace xib := xib.on hb; replace xzero := xzero.on hb; replace xk := xk.on hb; replace xd := xd.on hb; replace xsz := xsz.on hb; replace ia := ia.on hb; replace ib := ib.on hb; replace gz := gz.on hb; replace gk := gk.on hb; replace gd := gd.on hb; replace hB := hB.trans (hb.mono hB.size); have hz13 := hb.size
      (try go_wp2_with fail)
      refine hK.out _ _ (⟨keep4 hb qd hR1.1, keep4 hb qzero hR1.2.1, keep4 hb qia hR1.2.2⟩) (fun hR2 => ?_)
      clear hK K hR1
      (first | ((fail_if_success (unfold Act.put)); (try simp only [List.setIfInBounds_toArray, List.set])) | (try simp only [Act.put, List.setIfInBounds_toArray, List.set]))
      replace qd := Nat.lt_of_lt_of_le qd hz13
      replace qzero := Nat.lt_of_lt_of_le qzero hz13
      replace qia := Nat.lt_of_lt_of_le qia hz13
      clear hb hBd
      refine tk (i := 6) (v := ?_) rfl (by kernel_rfl) (fun _ _ _ h => h) (by rfl) ?_ (by assumption) ?_
      rotate_left 1
      · (intro w hSw; (try dsimp only at hSw); go_simp <;> (with_reducible rfl))
      (try simp only [Act.put, List.setIfInBounds_toArray, List.set])
      refine tk (i := 7) (v := ?_) rfl (by kernel_rfl) (fun _ _ _ h => h) (by rfl) ?_ (by assumption) ?_
      rotate_left 1
      · (intro w hSw; (try dsimp only at hSw); go_simp <;> (with_reducible rfl))
      (try simp only [Act.put, List.setIfInBounds_toArray, List.set])
      refine wpAnyH_done (by kernel_rfl) ?_ _
      refine NoPanic.normal ?_
      clear hR2
      clear qd qzero qia
      have est := EST.out
      have hL := L1.out (by trivial)
      go_wp2
      go_ret
      exact ⟨by first | rfl | (simp; omega) | simp [hL], hB⟩
    · have h5 := L5.out
      clear h5
      have pia := xia.all4
      have pib := xib.all4
      have pzero := xzero.all4
      have pk := xk.all4
      have pd := xd.all4
      have psz := xsz.all4
      have ltia := xia.lt
      have ltib := xib.lt
      have ltzero := xzero.lt
      have ltk := xk.lt
      have ltd := xd.lt
      have ltsz := xsz.lt
      go_wp2_with fail
      clear ltia
      clear ltib
      clear ltzero
      clear ltk
      clear ltd
      clear ltsz
      clear pia pib pzero pk pd psz
      refine (HU.out _ _ _ gd ib).mono ?_
      rintro e w11 ⟨rfl, hb⟩
      replace xia := xia.on hb
      replace xib := xib.on hb
      replace xzero := xzero.on hb
      replace xk := xk.on hb
      replace xd := xd.on hb
      replace xsz := xsz.on hb
      replace ia := ia.on hb
      replace ib := ib.on hb
      replace gz := gz.on hb
      replace gk := gk.on hb
      replace gd := gd.on hb
      have hz11 := hb.size
      try simp at hz11
      replace hB := hB.trans (hb.mono hB.size)
      clear hb
      clear kc kl
      have pia := xia.all4
      have pib := xib.all4
      have pzero := xzero.all4
      have pk := xk.all4
      have pd := xd.all4
      have psz := xsz.all4
      have ltia := xia.lt
      have ltib := xib.lt
      have ltzero := xzero.lt
      have ltk := xk.lt
      have ltd := xd.lt
      have ltsz := xsz.lt
      go_wp2_with fail
      clear ltia
      clear ltib
      clear ltzero
      clear ltk
      clear ltd
      clear ltsz
      clear pia pib pzero pk pd psz
      have qd := xd.lt
      have qzero := xzero.lt
      have qia := xia.lt
      obtain ⟨gd0, gd1, gd2, gd3⟩ := xd.cells4
      obtain ⟨gzero0, gzero1, gzero2, gzero3⟩ := xzero.cells4
      obtain ⟨gia0, gia1, gia2, gia3⟩ := xia.cells4
      refine wp_region_noPanic ?_
      refine wp_region_held_drew (S := (fun w' => (w'.cell? ⟨w7.heap.size, 0, none⟩ = some (.bool bx3) ∧ w'.cell? ⟨w7.heap.size, 1, none⟩ = some (.slice ax3 kx3 cx3) ∧ w'.cell? ⟨w7.heap.size, 2, none⟩ = some (.bool dx3) ∧ w'.cell? ⟨w7.heap.size, 3, none⟩ = some (.slice ex3 lx3 mx3)) ∧ (w'.cell? ⟨w2.heap.size, 0, none⟩ = some (.bool bz) ∧ w'.cell? ⟨w2.heap.size, 1, none⟩ = some (.slice az kz cz) ∧ w'.cell? ⟨w2.heap.size, 2, none⟩ = some (.bool dz) ∧ w'.cell? ⟨w2.heap.size, 3, none⟩ = some (.slice ez lz mz)) ∧ w'.cell? ⟨w.heap.size, 0, none⟩ = some (.bool bia) ∧ w'.cell? ⟨w.heap.size, 1, none⟩ = some (.slice aia kia cia) ∧ w'.cell? ⟨w.heap.size, 2, none⟩ = some (.bool dia) ∧ w'.cell? ⟨w.heap.size, 3, none⟩ = some (.slice eia lia mia))) (by kernel_rfl) ⟨⟨gd0, gd1, gd2, gd3⟩, ⟨gzero0, gzero1, gzero2, gzero3⟩, ⟨gia0, gia1, gia2, gia3⟩⟩ (fun hR0 => ?_)
      change wpAnyH _ _ _ _ _ 8 #[false, false, false, false, false, false, false, false] _ _
      clear gd0 gd1 gd2 gd3 gzero0 gzero1 gzero2 gzero3 gia0 gia1 gia2 gia3
      refine tk (i := 0) (v := ?_) rfl (by kernel_rfl) (fun _ _ _ h => h) (by rfl) ?_ (by assumption) ?_
      rotate_left 1
      · (intro w hSw; (try dsimp only at hSw); go_simp <;> (with_reducible rfl))
      (try simp only [Act.put, List.setIfInBounds_toArray, List.set])
      refine tk (i := 1) (v := ?_) rfl (by kernel_rfl) (fun _ _ _ h => h) (by rfl) ?_ (by assumption) ?_
      rotate_left 1
      · (intro w hSw; (try dsimp only at hSw); go_simp <;> (with_reducible rfl))
      (try simp only [Act.put, List.setIfInBounds_toArray, List.set])
      refine tk (i := 3) (v := ?_) rfl (by kernel_rfl) (fun _ _ _ h => h) (by rfl) ?_ (by assumption) ?_
      rotate_left 1
      · (intro w hSw; (try dsimp only at hSw); go_simp <;> (with_reducible rfl))
      (try simp only [Act.put, List.setIfInBounds_toArray, List.set])
      refine tk (i := 4) (v := ?_) rfl (by kernel_rfl) (fun _ _ _ h => h) (by rfl) ?_ (by assumption) ?_
      rotate_left 1
      · (intro w hSw; (try dsimp only at hSw); go_simp <;> (with_reducible rfl))
      (try simp only [Act.put, List.setIfInBounds_toArray, List.set])
      refine rd1 (i := 2) (by kernel_rfl) rfl (fun K hK => ?_)
      go_simp
      go_at_call 52; have hBd := hB.drew; refine (HC.out _ _ _ (by exact gd) (by exact gz)).mono ?_; rintro e w12 ⟨rfl, hb⟩; replace hb := (Below.refl w11.heap.size w11).drew.trans hb; replace xia := xia.on hb; replace xib := xib.on hb; replace xzero := xzero.on hb; replace xk := xk.on hb; replace xd := xd.on hb; replace xsz := xsz.on hb; replace ia := ia.on hb; replace ib := ib.on hb; replace gz := gz.on hb; replace gk := gk.on hb; replace gd := gd.on hb; replace hB := hB.trans (hb.mono hB.size); have hz12 := hb.size
      (try go_wp2_with fail)
      refine hK.out _ _ (⟨keep4 hb qd hR0.1, keep4 hb qzero hR0.2.1, keep4 hb qia hR0.2.2⟩) (fun hR1 => ?_)
      clear hK K hR0
      (first | ((fail_if_success (unfold Act.put)); (try simp only [List.setIfInBounds_toArray, List.set])) | (try simp only [Act.put, List.setIfInBounds_toArray, List.set]))
      replace qd := Nat.lt_of_lt_of_le qd hz12
      replace qzero := Nat.lt_of_lt_of_le qzero hz12
      replace qia := Nat.lt_of_lt_of_le qia hz12
      clear hb hBd
      refine rd1 (i := 5) (by kernel_rfl) rfl (fun K hK => ?_)
      go_simp
      go_at_call 52; have hBd := hB; refine (HT.out _ _ _ ia gz).mono ?_; rintro e w13 ⟨rfl, hb⟩; replace xia := xia.on hb; replace xib := xib.on hb; replace xzero := xzero.on hb; replace xk := xk.on hb; replace xd := xd.on hb; replace xsz := xsz.on hb; replace ia := ia.on hb; replace ib := ib.on hb; replace gz := gz.on hb; replace gk := gk.on hb; replace gd := gd.on hb; replace hB := hB.trans (hb.mono hB.size); have hz13 := hb.size
      (try go_wp2_with fail)
      refine hK.out _ _ (⟨keep4 hb qd hR1.1, keep4 hb qzero hR1.2.1, keep4 hb qia hR1.2.2⟩) (fun hR2 => ?_)
      clear hK K hR1
      (first | ((fail_if_success (unfold Act.put)); (try simp only [List.setIfInBounds_toArray, List.set])) | (try simp only [Act.put, List.setIfInBounds_toArray, List.set]))
      replace qd := Nat.lt_of_lt_of_le qd hz13
      replace qzero := Nat.lt_of_lt_of_le qzero hz13
      replace qia := Nat.lt_of_lt_of_le qia hz13
      clear hb hBd
      refine tk (i := 6) (v := ?_) rfl (by kernel_rfl) (fun _ _ _ h => h) (by rfl) ?_ (by assumption) ?_
      rotate_left 1
      · (intro w hSw; (try dsimp only at hSw); go_simp <;> (with_reducible rfl))
      (try simp only [Act.put, List.setIfInBounds_toArray, List.set])
      refine tk (i := 7) (v := ?_) rfl (by kernel_rfl) (fun _ _ _ h => h) (by rfl) ?_ (by assumption) ?_
      rotate_left 1
      · (intro w hSw; (try dsimp only at hSw); go_simp <;> (with_reducible rfl))
      (try simp only [Act.put, List.setIfInBounds_toArray, List.set])
      refine wpAnyH_done (by kernel_rfl) ?_ _
      refine NoPanic.normal ?_
      clear hR2
      clear qd qzero qia
      have est := EST.out
      have hL := L2.out (by trivial)
      go_wp2
      go_ret
      exact ⟨by first | rfl | (simp; omega) | simp [hL], hB⟩
    · have h5 := L5.out
      clear h5
      have pia := xia.all4
      have pib := xib.all4
      have pzero := xzero.all4
      have pk := xk.all4
      have pd := xd.all4
      have psz := xsz.all4
      have ltia := xia.lt
      have ltib := xib.lt
      have ltzero := xzero.lt
      have ltk := xk.lt
      have ltd := xd.lt
      have ltsz := xsz.lt
      go_wp2_with fail
      clear ltia
      clear ltib
      clear ltzero
      clear ltk
      clear ltd
      clear ltsz
      clear pia pib pzero pk pd psz
      refine (HU.out _ _ _ gd ib).mono ?_
      rintro e w11 ⟨rfl, hb⟩
      replace xia := xia.on hb
      replace xib := xib.on hb
      replace xzero := xzero.on hb
      replace xk := xk.on hb
      replace xd := xd.on hb
      replace xsz := xsz.on hb
      replace ia := ia.on hb
      replace ib := ib.on hb
      replace gz := gz.on hb
      replace gk := gk.on hb
      replace gd := gd.on hb
      have hz11 := hb.size
      try simp at hz11
      replace hB := hB.trans (hb.mono hB.size)
      clear hb
      clear kc kl
      have pia := xia.all4
      have pib := xib.all4
      have pzero := xzero.all4
      have pk := xk.all4
      have pd := xd.all4
      have psz := xsz.all4
      have ltia := xia.lt
      have ltib := xib.lt
      have ltzero := xzero.lt
      have ltk := xk.lt
      have ltd := xd.lt
      have ltsz := xsz.lt
      go_wp2_with fail
      clear ltia
      clear ltib
      clear ltzero
      clear ltk
      clear ltd
      clear ltsz
      clear pia pib pzero pk pd psz
      have qd := xd.lt
      have qzero := xzero.lt
      have qia := xia.lt
      obtain ⟨gd0, gd1, gd2, gd3⟩ := xd.cells4
      obtain ⟨gzero0, gzero1, gzero2, gzero3⟩ := xzero.cells4
      obtain ⟨gia0, gia1, gia2, gia3⟩ := xia.cells4
      refine wp_region_noPanic ?_
      refine wp_region_held_drew (S := (fun w' => (w'.cell? ⟨w7.heap.size, 0, none⟩ = some (.bool bx3) ∧ w'.cell? ⟨w7.heap.size, 1, none⟩ = some (.slice ax3 kx3 cx3) ∧ w'.cell? ⟨w7.heap.size, 2, none⟩ = some (.bool dx3) ∧ w'.cell? ⟨w7.heap.size, 3, none⟩ = some (.slice ex3 lx3 mx3)) ∧ (w'.cell? ⟨w2.heap.size, 0, none⟩ = some (.bool bz) ∧ w'.cell? ⟨w2.heap.size, 1, none⟩ = some (.slice az kz cz) ∧ w'.cell? ⟨w2.heap.size, 2, none⟩ = some (.bool dz) ∧ w'.cell? ⟨w2.heap.size, 3, none⟩ = some (.slice ez lz mz)) ∧ w'.cell? ⟨w.heap.size, 0, none⟩ = some (.bool bia) ∧ w'.cell? ⟨w.heap.size, 1, none⟩ = some (.slice aia kia cia) ∧ w'.cell? ⟨w.heap.size, 2, none⟩ = some (.bool dia) ∧ w'.cell? ⟨w.heap.size, 3, none⟩ = some (.slice eia lia mia))) (by kernel_rfl) ⟨⟨gd0, gd1, gd2, gd3⟩, ⟨gzero0, gzero1, gzero2, gzero3⟩, ⟨gia0, gia1, gia2, gia3⟩⟩ (fun hR0 => ?_)
      change wpAnyH _ _ _ _ _ 8 #[false, false, false, false, false, false, false, false] _ _
      clear gd0 gd1 gd2 gd3 gzero0 gzero1 gzero2 gzero3 gia0 gia1 gia2 gia3
      refine tk (i := 0) (v := ?_) rfl (by kernel_rfl) (fun _ _ _ h => h) (by rfl) ?_ (by assumption) ?_
      rotate_left 1
      · (intro w hSw; (try dsimp only at hSw); go_simp <;> (with_reducible rfl))
      (try simp only [Act.put, List.setIfInBounds_toArray, List.set])
      refine tk (i := 1) (v := ?_) rfl (by kernel_rfl) (fun _ _ _ h => h) (by rfl) ?_ (by assumption) ?_
      rotate_left 1
      · (intro w hSw; (try dsimp only at hSw); go_simp <;> (with_reducible rfl))
      (try simp only [Act.put, List.setIfInBounds_toArray, List.set])
      refine tk (i := 3) (v := ?_) rfl (by kernel_rfl) (fun _ _ _ h => h) (by rfl) ?_ (by assumption) ?_
      rotate_left 1
      · (intro w hSw; (try dsimp only at hSw); go_simp <;> (with_reducible rfl))
      (try simp only [Act.put, List.setIfInBounds_toArray, List.set])
      refine tk (i := 4) (v := ?_) rfl (by kernel_rfl) (fun _ _ _ h => h) (by rfl) ?_ (by assumption) ?_
      rotate_left 1
      · (intro w hSw; (try dsimp only at hSw); go_simp <;> (with_reducible rfl))
      (try simp only [Act.put, List.setIfInBounds_toArray, List.set])
      refine rd1 (i := 2) (by kernel_rfl) rfl (fun K hK => ?_)
      go_simp
      go_at_call 52; have hBd := hB.drew; refine (HC.out _ _ _ (by exact gd) (by exact gz)).mono ?_; rintro e w12 ⟨rfl, hb⟩; replace hb := (Below.refl w11.heap.size w11).drew.trans hb; replace xia := xia.on hb; replace xib := xib.on hb; replace xzero := xzero.on hb; replace xk := xk.on hb; replace xd := xd.on hb; replace xsz := xsz.on hb; replace ia := ia.on hb; replace ib := ib.on hb; replace gz := gz.on hb; replace gk := gk.on hb; replace gd := gd.on hb; replace hB := hB.trans (hb.mono hB.size); have hz12 := hb.size
      (try go_wp2_with fail)
      refine hK.out _ _ (⟨keep4 hb qd hR0.1, keep4 hb qzero hR0.2.1, keep4 hb qia hR0.2.2⟩) (fun hR1 => ?_)
      clear hK K hR0
      (first | ((fail_if_success (unfold Act.put)); (try simp only [List.setIfInBounds_toArray, List.set])) | (try simp only [Act.put, List.setIfInBounds_toArray, List.set]))
      replace qd := Nat.lt_of_lt_of_le qd hz12
      replace qzero := Nat.lt_of_lt_of_le qzero hz12
      replace qia := Nat.lt_of_lt_of_le qia hz12
      clear hb hBd
      refine rd1 (i := 5) (by kernel_rfl) rfl (fun K hK => ?_)
      go_simp
      go_at_call 52; have hBd := hB; refine (HT.out _ _ _ ia gz).mono ?_; rintro e w13 ⟨rfl, hb⟩; replace xia := xia.on hb; replace xib := xib.on hb; replace xzero := xzero.on hb; replace xk := xk.on hb; replace xd := xd.on hb; replace xsz := xsz.on hb; replace ia := ia.on hb; replace ib := ib.on hb; replace gz := gz.on hb; replace gk := gk.on hb; replace gd := gd.on hb; replace hB := hB.trans (hb.mono hB.size); have hz13 := hb.size
      (try go_wp2_with fail)
      refine hK.out _ _ (⟨keep4 hb qd hR1.1, keep4 hb qzero hR1.2.1, keep4 hb qia hR1.2.2⟩) (fun hR2 => ?_)
      clear hK K hR1
      (first | ((fail_if_success (unfold Act.put)); (try simp only [List.setIfInBounds_toArray, List.set])) | (try simp only [Act.put, List.setIfInBounds_toArray, List.set]))
      replace qd := Nat.lt_of_lt_of_le qd hz13
      replace qzero := Nat.lt_of_lt_of_le qzero hz13
      replace qia := Nat.lt_of_lt_of_le qia hz13
      clear hb hBd
      refine tk (i := 6) (v := ?_) rfl (by kernel_rfl) (fun _ _ _ h => h) (by rfl) ?_ (by assumption) ?_
      rotate_left 1
      · (intro w hSw; (try dsimp only at hSw); go_simp <;> (with_reducible rfl))
      (try simp only [Act.put, List.setIfInBounds_toArray, List.set])
      refine tk (i := 7) (v := ?_) rfl (by kernel_rfl) (fun _ _ _ h => h) (by rfl) ?_ (by assumption) ?_
      rotate_left 1
      · (intro w hSw; (try dsimp only at hSw); go_simp <;> (with_reducible rfl))
      (try simp only [Act.put, List.setIfInBounds_toArray, List.set])
      refine wpAnyH_done (by kernel_rfl) ?_ _
      refine NoPanic.normal ?_
      clear hR2
      clear qd qzero qia
      have est := EST.out
      have hL := L3.out (by trivial)
      go_wp2
      go_ret
      exact ⟨by first | rfl | (simp; omega) | simp [hL], hB⟩
    · have h5 := L5.out
      clear h5
      have pia := xia.all4
      have pib := xib.all4
      have pzero := xzero.all4
      have pk := xk.all4
      have pd := xd.all4
      have psz := xsz.all4
      have ltia := xia.lt
      have ltib := xib.lt
      have ltzero := xzero.lt
      have ltk := xk.lt
      have ltd := xd.lt
      have ltsz := xsz.lt
      go_wp2_with fail
      clear ltia
      clear ltib
      clear ltzero
      clear ltk
      clear ltd
      clear ltsz
      clear pia pib pzero pk pd psz
      refine (HU.out _ _ _ gd ib).mono ?_
      rintro e w11 ⟨rfl, hb⟩
      replace xia := xia.on hb
      replace xib := xib.on hb
      replace xzero := xzero.on hb
      replace xk := xk.on hb
      replace xd := xd.on hb
      replace xsz := xsz.on hb
      replace ia := ia.on hb
      replace ib := ib.on hb
      replace gz := gz.on hb
      replace gk := gk.on hb
      replace gd := gd.on hb
      have hz11 := hb.size
      try simp at hz11
      replace hB := hB.trans (hb.mono hB.size)
      clear hb
      clear kc kl
      have pia := xia.all4
      have pib := xib.all4
      have pzero := xzero.all4
      have pk := xk.all4
      have pd := xd.all4
      have psz := xsz.all4
      have ltia := xia.lt
      have ltib := xib.lt
      have ltzero := xzero.lt
      have ltk := xk.lt
      have ltd := xd.lt
      have ltsz := xsz.lt
      go_wp2_with fail
      clear ltia
      clear ltib
      clear ltzero
      clear ltk
      clear ltd
      clear ltsz
      clear pia pib pzero pk pd psz
      have qd := xd.lt
      have qzero := xzero.lt
      have qia := xia.lt
      obtain ⟨gd0, gd1, gd2, gd3⟩ := xd.cells4
      obtain ⟨gzero0, gzero1, gzero2, gzero3⟩ := xzero.cells4
      obtain ⟨gia0, gia1, gia2, gia3⟩ := xia.cells4
      refine wp_region_noPanic ?_
      refine wp_region_held_drew (S := (fun w' => (w'.cell? ⟨w7.heap.size, 0, none⟩ = some (.bool bx3) ∧ w'.cell? ⟨w7.heap.size, 1, none⟩ = some (.slice ax3 kx3 cx3) ∧ w'.cell? ⟨w7.heap.size, 2, none⟩ = some (.bool dx3) ∧ w'.cell? ⟨w7.heap.size, 3, none⟩ = some (.slice ex3 lx3 mx3)) ∧ (w'.cell? ⟨w2.heap.size, 0, none⟩ = some (.bool bz) ∧ w'.cell? ⟨w2.heap.size, 1, none⟩ = some (.slice az kz cz) ∧ w'.cell? ⟨w2.heap.size, 2, none⟩ = some (.bool dz) ∧ w'.cell? ⟨w2.heap.size, 3, none⟩ = some (.slice ez lz mz)) ∧ w'.cell? ⟨w.heap.size, 0, none⟩ = some (.bool bia) ∧ w'.cell? ⟨w.heap.size, 1, none⟩ = some (.slice aia kia cia) ∧ w'.cell? ⟨w.heap.size, 2, none⟩ = some (.bool dia) ∧ w'.cell? ⟨w.heap.size, 3, none⟩ = some (.slice eia lia mia))) (by kernel_rfl) ⟨⟨gd0, gd1, gd2, gd3⟩, ⟨gzero0, gzero1, gzero2, gzero3⟩, ⟨gia0, gia1, gia2, gia3⟩⟩ (fun hR0 => ?_)
      change wpAnyH _ _ _ _ _ 8 #[false, false, false, false, false, false, false, false] _ _
      clear gd0 gd1 gd2 gd3 gzero0 gzero1 gzero2 gzero3 gia0 gia1 gia2 gia3
      refine tk (i := 0) (v := ?_) rfl (by kernel_rfl) (fun _ _ _ h => h) (by rfl) ?_ (by assumption) ?_
      rotate_left 1
      · (intro w hSw; (try dsimp only at hSw); go_simp <;> (with_reducible rfl))
      (try simp only [Act.put, List.setIfInBounds_toArray, List.set])
      refine tk (i := 1) (v := ?_) rfl (by kernel_rfl) (fun _ _ _ h => h) (by rfl) ?_ (by assumption) ?_
      rotate_left 1
      · (intro w hSw; (try dsimp only at hSw); go_simp <;> (with_reducible rfl))
      (try simp only [Act.put, List.setIfInBounds_toArray, List.set])
      refine tk (i := 3) (v := ?_) rfl (by kernel_rfl) (fun _ _ _ h => h) (by rfl) ?_ (by assumption) ?_
      rotate_left 1
      · (intro w hSw; (try dsimp only at hSw); go_simp <;> (with_reducible rfl))
      (try simp only [Act.put, List.setIfInBounds_toArray, List.set])
      refine tk (i := 4) (v := ?_) rfl (by kernel_rfl) (fun _ _ _ h => h) (by rfl) ?_ (by assumption) ?_
      rotate_left 1
      · (intro w hSw; (try dsimp only at hSw); go_simp <;> (with_reducible rfl))
      (try simp only [Act.put, List.setIfInBounds_toArray, List.set])
      refine rd1 (i := 2) (by kernel_rfl) rfl (fun K hK => ?_)
      go_simp
      go_at_call 52; have hBd := hB.drew; refine (HC.out _ _ _ (by exact gd) (by exact gz)).mono ?_; rintro e w12 ⟨rfl, hb⟩; replace hb := (Below.refl w11.heap.size w11).drew.trans hb; replace xia := xia.on hb; replace xib := xib.on hb; replace xzero := xzero.on hb; replace xk := xk.on hb; replace xd := xd.on hb; replace xsz := xsz.on hb; replace ia := ia.on hb; replace ib := ib.on hb; replace gz := gz.on hb; replace gk := gk.on hb; replace gd := gd.on hb; replace hB := hB.trans (hb.mono hB.size); have hz12 := hb.size
      (try go_wp2_with fail)
      refine hK.out _ _ (⟨keep4 hb qd hR0.1, keep4 hb qzero hR0.2.1, keep4 hb qia hR0.2.2⟩) (fun hR1 => ?_)
      clear hK K hR0
      (first | ((fail_if_success (unfold Act.put)); (try simp only [List.setIfInBounds_toArray, List.set])) | (try simp only [Act.put, List.setIfInBounds_toArray, List.set]))
      replace qd := Nat.lt_of_lt_of_le qd hz12
      replace qzero := Nat.lt_of_lt_of_le qzero hz12
      replace qia := Nat.lt_of_lt_of_le qia hz12
      clear hb hBd
      refine rd1 (i := 5) (by kernel_rfl) rfl (fun K hK => ?_)
      go_simp
      go_at_call 52; have hBd := hB; refine (HT.out _ _ _ ia gz).mono ?_; rintro e w13 ⟨rfl, hb⟩; replace xia := xia.on hb; replace xib := xib.on hb; replace xzero := xzero.on hb; replace xk := xk.on hb; replace xd := xd.on hb; replace xsz := xsz.on hb; replace ia := ia.on hb; replace ib := ib.on hb; replace gz := gz.on hb; replace gk := gk.on hb; replace gd := gd.on hb; replace hB := hB.trans (hb.mono hB.size); have hz13 := hb.size
      (try go_wp2_with fail)
      refine hK.out _ _ (⟨keep4 hb qd hR1.1, keep4 hb qzero hR1.2.1, keep4 hb qia hR1.2.2⟩) (fun hR2 => ?_)
      clear hK K hR1
      (first | ((fail_if_success (unfold Act.put)); (try simp only [List.setIfInBounds_toArray, List.set])) | (try simp only [Act.put, List.setIfInBounds_toArray, List.set]))
      replace qd := Nat.lt_of_lt_of_le qd hz13
      replace qzero := Nat.lt_of_lt_of_le qzero hz13
      replace qia := Nat.lt_of_lt_of_le qia hz13
      clear hb hBd
      refine tk (i := 6) (v := ?_) rfl (by kernel_rfl) (fun _ _ _ h => h) (by rfl) ?_ (by assumption) ?_
      rotate_left 1
      · (intro w hSw; (try dsimp only at hSw); go_simp <;> (with_reducible rfl))
      (try simp only [Act.put, List.setIfInBounds_toArray, List.set])
      refine tk (i := 7) (v := ?_) rfl (by kernel_rfl) (fun _ _ _ h => h) (by rfl) ?_ (by assumption) ?_
      rotate_left 1
      · (intro w hSw; (try dsimp only at hSw); go_simp <;> (with_reducible rfl))
      (try simp only [Act.put, List.setIfInBounds_toArray, List.set])
      refine wpAnyH_done (by kernel_rfl) ?_ _
      refine NoPanic.normal ?_
      clear hR2
      clear qd qzero qia
      have est := EST.out
      have hL := L4.out (by trivial)
      go_wp2
      go_ret
      exact ⟨by first | rfl | (simp; omega) | simp [hL], hB⟩
    · have h5 := L5.out
      replace h5 := h5 (by first | trivial | decide)
      have pia := xia.all4
      have pib := xib.all4
      have pzero := xzero.all4
      have pk := xk.all4
      have pd := xd.all4
      have psz := xsz.all4
      have ltia := xia.lt
      have ltib := xib.lt
      have ltzero := xzero.lt
      have ltk := xk.lt
      have ltd := xd.lt
      have ltsz := xsz.lt
      go_wp2_with fail
      clear ltia
      clear ltib
      clear ltzero
      clear ltk
      clear ltd
      clear ltsz
      clear pia pib pzero pk pd psz
      refine (HU.out _ _ _ gd ib).mono ?_
      rintro e w11 ⟨rfl, hb⟩
      replace xia := xia.on hb
      replace xib := xib.on hb
      replace xzero := xzero.on hb
      replace xk := xk.on hb
      replace xd := xd.on hb
      replace xsz := xsz.on hb
      replace ia := ia.on hb
      replace ib := ib.on hb
      replace gz := gz.on hb
      replace gk := gk.on hb
      replace gd := gd.on hb
      have hz11 := hb.size
      try simp at hz11
      replace hB := hB.trans (hb.mono hB.size)
      clear hb
      clear kc kl
      have pia := xia.all4
      have pib := xib.all4
      have pzero := xzero.all4
      have pk := xk.all4
      have pd := xd.all4
      have psz := xsz.all4
      have ltia := xia.lt
      have ltib := xib.lt
      have ltzero := xzero.lt
      have ltk := xk.lt
      have ltd := xd.lt
      have ltsz := xsz.lt
      go_wp2_with fail
      clear ltia
      clear ltib
      clear ltzero
      clear ltk
      clear ltd
      clear ltsz
      clear pia pib pzero pk pd psz
      have qd := xd.lt
      have qzero := xzero.lt
      have qia := xia.lt
      obtain ⟨gd0, gd1, gd2, gd3⟩ := xd.cells4
      obtain ⟨gzero0, gzero1, gzero2, gzero3⟩ := xzero.cells4
      obtain ⟨gia0, gia1, gia2, gia3⟩ := xia.cells4
      refine wp_region_noPanic ?_
      refine wp_region_held_drew (S := (fun w' => (w'.cell? ⟨w7.heap.size, 0, none⟩ = some (.bool bx3) ∧ w'.cell? ⟨w7.heap.size, 1, none⟩ = some (.slice ax3 kx3 cx3) ∧ w'.cell? ⟨w7.heap.size, 2, none⟩ = some (.bool dx3) ∧ w'.cell? ⟨w7.heap.size, 3, none⟩ = some (.slice ex3 lx3 mx3)) ∧ (w'.cell? ⟨w2.heap.size, 0, none⟩ = some (.bool bz) ∧ w'.cell? ⟨w2.heap.size, 1, none⟩ = some (.slice az kz cz) ∧ w'.cell? ⟨w2.heap.size, 2, none⟩ = some (.bool dz) ∧ w'.cell? ⟨w2.heap.size, 3, none⟩ = some (.slice ez lz mz)) ∧ w'.cell? ⟨w.heap.size, 0, none⟩ = some (.bool bia) ∧ w'.cell? ⟨w.heap.size, 1, none⟩ = some (.slice aia kia cia) ∧ w'.cell? ⟨w.heap.size, 2, none⟩ = some (.bool dia) ∧ w'.cell? ⟨w.heap.size, 3, none⟩ = some (.slice eia lia mia))) (by kernel_rfl) ⟨⟨gd0, gd1, gd2, gd3⟩, ⟨gzero0, gzero1, gzero2, gzero3⟩, ⟨gia0, gia1, gia2, gia3⟩⟩ (fun hR0 => ?_)
      change wpAnyH _ _ _ _ _ 8 #[false, false, false, false, false, false, false, false] _ _
      clear gd0 gd1 gd2 gd3 gzero0 gzero1 gzero2 gzero3 gia0 gia1 gia2 gia3
      refine tk (i := 0) (v := ?_) rfl (by kernel_rfl) (fun _ _ _ h => h) (by rfl) ?_ (by assumption) ?_
      rotate_left 1
      · (intro w hSw; (try dsimp only at hSw); go_simp <;> (with_reducible rfl))
      (try simp only [Act.put, List.setIfInBounds_toArray, List.set])
      refine tk (i := 1) (v := ?_) rfl (by kernel_rfl) (fun _ _ _ h => h) (by rfl) ?_ (by assumption) ?_
      rotate_left 1
      · (intro w hSw; (try dsimp only at hSw); go_simp <;> (with_reducible rfl))
      (try simp only [Act.put, List.setIfInBounds_toArray, List.set])
      refine tk (i := 3) (v := ?_) rfl (by kernel_rfl) (fun _ _ _ h => h) (by rfl) ?_ (by assumption) ?_
      rotate_left 1
      · (intro w hSw; (try dsimp only at hSw); go_simp <;> (with_reducible rfl))
      (try simp only [Act.put, List.setIfInBounds_toArray, List.set])
      refine tk (i := 4) (v := ?_) rfl (by kernel_rfl) (fun _ _ _ h => h) (by rfl) ?_ (by assumption) ?_
      rotate_left 1
      · (intro w hSw; (try dsimp only at hSw); go_simp <;> (with_reducible rfl))
      (try simp only [Act.put, List.setIfInBounds_toArray, List.set])
      refine rd1 (i := 2) (by kernel_rfl) rfl (fun K hK => ?_)
      go_simp
      go_at_call 52; have hBd := hB.drew; refine (HC.out _ _ _ (by exact gd) (by exact gz)).mono ?_; rintro e w12 ⟨rfl, hb⟩; replace hb := (Below.refl w11.heap.size w11).drew.trans hb; replace xia := xia.on hb; replace xib := xib.on hb; replace xzero := xzero.on hb; replace xk := xk.on hb; replace xd := xd.on hb; replace xsz := xsz.on hb; replace ia := ia.on hb; replace ib := ib.on hb; replace gz := gz.on hb; replace gk := gk.on hb; replace gd := gd.on hb; replace hB := hB.trans (hb.mono hB.size); have hz12 := hb.size
      (try go_wp2_with fail)
      refine hK.out _ _ (⟨keep4 hb qd hR0.1, keep4 hb qzero hR0.2.1, keep4 hb qia hR0.2.2⟩) (fun hR1 => ?_)
      clear hK K hR0
      (first | ((fail_if_success (unfold Act.put)); (try simp only [List.setIfInBounds_toArray, List.set])) | (try simp only [Act.put, List.setIfInBounds_toArray, List.set]))
      replace qd := Nat.lt_of_lt_of_le qd hz12
      replace qzero := Nat.lt_of_lt_of_le qzero hz12
      replace qia := Nat.lt_of_lt_of_le qia hz12
      clear hb hBd
      refine rd1 (i := 5) (by kernel_rfl) rfl (fun K hK => ?_)
      go_simp
      go_at_call 52; have hBd := hB; refine (HT.out _ _ _ ia gz).mono ?_; rintro e w13 ⟨rfl, hb⟩; replace xia := xia.on hb; replace xib := xib.on hb; replace xzero := xzero.on hb; replace xk := xk.on hb; replace xd := xd.on hb; replace xsz := xsz.on hb; replace ia := ia.on hb; replace ib := ib.on hb; replace gz := gz.on hb; replace gk := gk.on hb; replace gd := gd.on hb; replace hB := hB.trans (hb.mono hB.size); have hz13 := hb.size
      (try go_wp2_with fail)
      refine hK.out _ _ (⟨keep4 hb qd hR1.1, keep4 hb qzero hR1.2.1, keep4 hb qia hR1.2.2⟩) (fun hR2 => ?_)
      clear hK K hR1
      (first | ((fail_if_success (unfold Act.put)); (try simp only [List.setIfInBounds_toArray, List.set])) | (try simp only [Act.put, List.setIfInBounds_toArray, List.set]))
      replace qd := Nat.lt_of_lt_of_le qd hz13
      replace qzero := Nat.lt_of_lt_of_le qzero hz13
      replace qia := Nat.lt_of_lt_of_le qia hz13
      clear hb hBd
      refine tk (i := 6) (v := ?_) rfl (by kernel_rfl) (fun _ _ _ h => h) (by rfl) ?_ (by assumption) ?_
      rotate_left 1
      · (intro w hSw; (try dsimp only at hSw); go_simp <;> (with_reducible rfl))
      (try simp only [Act.put, List.setIfInBounds_toArray, List.set])
      refine tk (i := 7) (v := ?_) rfl (by kernel_rfl) (fun _ _ _ h => h) (by rfl) ?_ (by assumption) ?_
      rotate_left 1
      · (intro w hSw; (try dsimp only at hSw); go_simp <;> (with_reducible rfl))
      (try simp only [Act.put, List.setIfInBounds_toArray, List.set])
      refine wpAnyH_done (by kernel_rfl) ?_ _
      refine NoPanic.normal ?_
      clear hR2
      clear qd qzero qia
      have est := EST.out
      by_cases ho : o < 0
      · go_wp2; go_ret; exact ⟨by first | rfl | simp [ho], hB⟩
      · have hL := (L6.out (by trivial)).resolve_left ho; subst hL; go_wp2; go_ret; exact ⟨by first | rfl | simp, hB⟩
    · have h5 := L5.out
      replace h5 := h5 (by first | trivial | decide)
      have pia := xia.all4
      have pib := xib.all4
      have pzero := xzero.all4
      have pk := xk.all4
      have pd := xd.all4
      have psz := xsz.all4
      have ltia := xia.lt
      have ltib := xib.lt
      have ltzero := xzero.lt
      have ltk := xk.lt
      have ltd := xd.lt
      have ltsz := xsz.lt
      go_wp2_with fail
      clear ltia
      clear ltib
      clear ltzero
      clear ltk
      clear ltd
      clear ltsz
      clear pia pib pzero pk pd psz
      refine (HU.out _ _ _ gd ib).mono ?_
      rintro e w11 ⟨rfl, hb⟩
      replace xia := xia.on hb
      replace xib := xib.on hb
      replace xzero := xzero.on hb
      replace xk := xk.on hb
      replace xd := xd.on hb
      replace xsz := xsz.on hb
      replace ia := ia.on hb
      replace ib := ib.on hb
      replace gz := gz.on hb
      replace gk := gk.on hb
      replace gd := gd.on hb
      have hz11 := hb.size
      try simp at hz11
      replace hB := hB.trans (hb.mono hB.size)
      clear hb
      clear kc kl
      have pia := xia.all4
      have pib := xib.all4
      have pzero := xzero.all4
      have pk := xk.all4
      have pd := xd.all4
      have psz := xsz.all4
      have ltia := xia.lt
      have ltib := xib.lt
      have ltzero := xzero.lt
      have ltk := xk.lt
      have ltd := xd.lt
      have ltsz := xsz.lt
      go_wp2_with fail
      clear ltia
      clear ltib
      clear ltzero
      clear ltk
      clear ltd
      clear ltsz
      clear pia pib pzero pk pd psz
      have qd := xd.lt
      have qzero := xzero.lt
      have qia := xia.lt
      obtain ⟨gd0, gd1, gd2, gd3⟩ := xd.cells4
      obtain ⟨gzero0, gzero1, gzero2, gzero3⟩ := xzero.cells4
      obtain ⟨gia0, gia1, gia2, gia3⟩ := xia.cells4
      refine wp_region_noPanic ?_
      refine wp_region_held_drew (S := (fun w' => (w'.cell? ⟨w7.heap.size, 0, none⟩ = some (.bool bx3) ∧ w'.cell? ⟨w7.heap.size, 1, none⟩ = some (.slice ax3 kx3 cx3) ∧ w'.cell? ⟨w7.heap.size, 2, none⟩ = some (.bool dx3) ∧ w'.cell? ⟨w7.heap.size, 3, none⟩ = some (.slice ex3 lx3 mx3)) ∧ (w'.cell? ⟨w2.heap.size, 0, none⟩ = some (.bool bz) ∧ w'.cell? ⟨w2.heap.size, 1, none⟩ = some (.slice az kz cz) ∧ w'.cell? ⟨w2.heap.size, 2, none⟩ = some (.bool dz) ∧ w'.cell? ⟨w2.heap.size, 3, none⟩ = some (.slice ez lz mz)) ∧ w'.cell? ⟨w.heap.size, 0, none⟩ = some (.bool bia) ∧ w'.cell? ⟨w.heap.size, 1, none⟩ = some (.slice aia kia cia) ∧ w'.cell? ⟨w.heap.size, 2, none⟩ = some (.bool dia) ∧ w'.cell? ⟨w.heap.size, 3, none⟩ = some (.slice eia lia mia))) (by kernel_rfl) ⟨⟨gd0, gd1, gd2, gd3⟩, ⟨gzero0, gzero1, gzero2, gzero3⟩, ⟨gia0, gia1, gia2, gia3⟩⟩ (fun hR0 => ?_)
      change wpAnyH _ _ _ _ _ 8 #[false, false, false, false, false, false, false, false] _ _
      clear gd0 gd1 gd2 gd3 gzero0 gzero1 gzero2 gzero3 gia0 gia1 gia2 gia3
      refine tk (i := 0) (v := ?_) rfl (by kernel_rfl) (fun _ _ _ h => h) (by rfl) ?_ (by assumption) ?_
      rotate_left 1
      · (intro w hSw; (try dsimp only at hSw); go_simp <;> (with_reducible rfl))
      (try simp only [Act.put, List.setIfInBounds_toArray, List.set])
      refine tk (i := 1) (v := ?_) rfl (by kernel_rfl) (fun _ _ _ h => h) (by rfl) ?_ (by assumption) ?_
      rotate_left 1
      · (intro w hSw; (try dsimp only at hSw); go_simp <;> (with_reducible rfl))
      (try simp only [Act.put, List.setIfInBounds_toArray, List.set])
      refine tk (i := 3) (v := ?_) rfl (by kernel_rfl) (fun _ _ _ h => h) (by rfl) ?_ (by assumption) ?_
      rotate_left 1
      · (intro w hSw; (try dsimp only at hSw); go_simp <;> (with_reducible rfl))
      (try simp only [Act.put, List.setIfInBounds_toArray, List.set])
      refine tk (i := 4) (v := ?_) rfl (by kernel_rfl) (fun _ _ _ h => h) (by rfl) ?_ (by assumption) ?_
      rotate_left 1
      · (intro w hSw; (try dsimp only at hSw); go_simp <;> (with_reducible rfl))
      (try simp only [Act.put, List.setIfInBounds_toArray, List.set])
      refine rd1 (i := 2) (by kernel_rfl) rfl (fun K hK => ?_)
      go_simp
      go_at_call 52; have hBd := hB.drew; refine (HC.out _ _ _ (by exact gd) (by exact gz)).mono ?_; rintro e w12 ⟨rfl, hb⟩; replace hb := (Below.refl w11.heap.size w11).drew.trans hb; replace xia := xia.on hb; replace xib := xib.on hb; replace xzero := xzero.on hb; replace xk := xk.on hb; replace xd := xd.on hb; replace xsz := xsz.on hb; replace ia := ia.on hb; replace ib := ib.on hb; replace gz := gz.on hb; replace gk := gk.on hb; replace gd := gd.on hb; replace hB := hB.trans (hb.mono hB.size); have hz12 := hb.size
      (try go_wp2_with fail)
      refine hK.out _ _ (⟨keep4 hb qd hR0.1, keep4 hb qzero hR0.2.1, keep4 hb qia hR0.2.2⟩) (fun hR1 => ?_)
      clear hK K hR0
      (first | ((fail_if_success (unfold Act.put)); (try simp only [List.setIfInBounds_toArray, List.set])) | (try simp only [Act.put, List.setIfInBounds_toArray, List.set]))
      replace qd := Nat.lt_of_lt_of_le qd hz12
      replace qzero := Nat.lt_of_lt_of_le qzero hz12
      replace qia := Nat.lt_of_lt_of_le qia hz12
      clear hb hBd
      refine rd1 (i := 5) (by kernel_rfl) rfl (fun K hK => ?_)
      go_simp
      go_at_call 52; have hBd := hB; refine (HT.out _ _ _ ia gz).mono ?_; rintro e w13 ⟨rfl, hb⟩; replace xia := xia.on hb; replace xib := xib.on hb; replace xzero := xzero.on hb; replace xk := xk.on hb; replace xd := xd.on hb; replace xsz := xsz.on hb; replace ia := ia.on hb; replace ib := ib.on hb; replace gz := gz.on hb; replace gk := gk.on hb; replace gd := gd.on hb; replace hB := hB.trans (hb.mono hB.size); have hz13 := hb.size
      (try go_wp2_with fail)
      refine hK.out _ _ (⟨keep4 hb qd hR1.1, keep4 hb qzero hR1.2.1, keep4 hb qia hR1.2.2⟩) (fun hR2 => ?_)
      clear hK K hR1
      (first | ((fail_if_success (unfold Act.put)); (try simp only [List.setIfInBounds_toArray, List.set])) | (try simp only [Act.put, List.setIfInBounds_toArray, List.set]))
      replace qd := Nat.lt_of_lt_of_le qd hz13
      replace qzero := Nat.lt_of_lt_of_le qzero hz13
      replace qia := Nat.lt_of_lt_of_le qia hz13
      clear hb hBd
      refine tk (i := 6) (v := ?_) rfl (by kernel_rfl) (fun _ _ _ h => h) (by rfl) ?_ (by assumption) ?_
      rotate_left 1
      · (intro w hSw; (try dsimp only at hSw); go_simp <;> (with_reducible rfl))
      (try simp only [Act.put, List.setIfInBounds_toArray, List.set])
      refine tk (i := 7) (v := ?_) rfl (by kernel_rfl) (fun _ _ _ h => h) (by rfl) ?_ (by assumption) ?_
      rotate_left 1
      · (intro w hSw; (try dsimp only at hSw); go_simp <;> (with_reducible rfl))
      (try simp only [Act.put, List.setIfInBounds_toArray, List.set])
      refine wpAnyH_done (by kernel_rfl) ?_ _
      refine NoPanic.normal ?_
      clear hR2
      clear qd qzero qia
      have est := EST.out
      by_cases ho : o < 0
      · go_wp2; go_ret; exact ⟨by first | rfl | simp [ho], hB⟩
      · have hL := (L7.out (by first | trivial | decide)).resolve_left ho
        obtain ⟨-, -, nk, -⟩ := fra_nums gk
        rw [Rat.num_intCast] at nk
        have hk := num_lim nk
        have hkl := (num_len nk).1
        cases hd0 : dig f.natAbs with
        | nil =>
          rw [hd0, List.length_nil] at hkl
          subst hkl
          have pia := xia.all4
          have pib := xib.all4
          have pzero := xzero.all4
          have pk := xk.all4
          have pd := xd.all4
          have psz := xsz.all4
          have ltia := xia.lt
          have ltib := xib.lt
          have ltzero := xzero.lt
          have ltk := xk.lt
          have ltd := xd.lt
          have ltsz := xsz.lt
          go_wp2
          go_ret
          exact ⟨by first | rfl | simp, hB⟩
        | cons x0 xs =>
          rw [hd0] at hk hkl
          obtain ⟨nb, no, rfl⟩ := lim_addr hk (by simp)
          have nc := cell_of_lim hk 0 (by simp)
          have nx : (x0 :: xs : List Nat)[0]?.getD 0 = x0 := rfl
          rw [nx] at nc
          simp only [Nat.add_zero] at nc
          have nl := lt_of_cell nc
          have hv := val_dig f.natAbs
          rw [hd0] at hv
          have hx : x0 % 2 = 0 := even_head hv hL
          have hx2 : IntKind.u16.wrap (Int.tmod (x0 : Int) 2) = 0 := by rw [Int.tmod_eq_emod_of_nonneg (by omega), show (x0 : Int) % 2 = 0 by omega]; decide
          have hk2 : ((kx2 : Int) == 0) = false := by rw [beq_eq_false_iff_ne, hkl]; simp; omega
          have pia := xia.all4
          have pib := xib.all4
          have pzero := xzero.all4
          have pk := xk.all4
          have pd := xd.all4
          have psz := xsz.all4
          have ltia := xia.lt
          have ltib := xib.lt
          have ltzero := xzero.lt
          have ltk := xk.lt
          have ltd := xd.lt
          have ltsz := xsz.lt
          go_wp2
          go_ret
          exact ⟨by first | rfl | (simp; done) | (simp; omega), hB⟩
end Go.Proofs.YthlclegajldphaaGreat
