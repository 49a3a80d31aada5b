/- A part of the proofs about fractions. -/
import Derived.Test.YtnnnhjgmgomlpaaGreatQz1
import Derived.Test.YtnnnhjgmgomlpaaGreatQz2
import Derived.Test.YtnnnhjgmgomlpaaGreatQz3
import Derived.Test.YtnnnhjgmgomlpaaGreatQz4
import Derived.Test.YtnnnhjgmgomlpaaGreatQz5
import Derived.Test.YtnnnhjgmgomlpaaGreatQz6
import Derived.Test.YtnnnhjgmgomlpaaGreatQz7
import Derived.Test.YtnnnhjgmgomlpaaGreatQz8
import Derived.Test.YtnnnhjgmgomlpaaGreatQz9
import Derived.Test.YtnnnhjgmgomlpaaGreatQz10
import Derived.Test.YtnnnhjgmgomlpaaGreatQz11
import Derived.Test.YtnnnhjgmgomlpaaGreatQz12
import Derived.Test.YtnnnhjgmgomlpaaGreatQz13
import Derived.Test.YtnnnhjgmgomlpaaGreatQz14
import Derived.Test.YtnnnhjgmgomlpaaGreatQz15
import Derived.Test.YtnnnhjgmgomlpaaGreatQz16
import Derived.Test.YtnnnhjgmgomlpaaGreatQz17
import Derived.Test.YtnnnhjgmgomlpaaGreatQz18
import Derived.Test.YtnnnhjgmgomlpaaGreatQz19
import Derived.Test.YtnnnhjgmgomlpaaGreatQz20
import Derived.Test.YtnnnhjgmgomlpaaGreatQz21
import Derived.Test.YtnnnhjgmgomlpaaGreatQz22
import Derived.Test.YtnnnhjgmgomlpaaGreatQz23
import Derived.Test.YtnnnhjgmgomlpaaGreatQz24
import Derived.Test.YtnnnhjgmgomlpaaGreatQz25
import Derived.Test.YtnnnhjgmgomlpaaGreatQz26
import Derived.Test.YtnnnhjgmgomlpaaGreatQz27
import Derived.Test.YtnnnhjgmgomlpaaGreatQz28
import Derived.Test.YtnnnhjgmgomlpaaGreatQz29
import Derived.Test.YtnnnhjgmgomlpaaGreatQz30
import Derived.Test.YtnnnhjgmgomlpaaGreatQz31
import Derived.Test.YtnnnhjgmgomlpaaGreatRows
import Derived.Test.YtnnnhjgmgomlpaaGreatQWrongf1
namespace Go.Proofs.YtnnnhjgmgomlpaaGreat
open Go.RowKit Wh
theorem ref2Same_zero (w : World) : Calls Tryz.prog 22 #[.agg #[.bool false, .slice none 0 0, .bool false, .slice none 0 0], .agg #[.bool false, .slice none 0 0, .bool false, .slice none 0 0]] w fun e w' => e = .returned (.bool true) ∧ Below w.heap.size w w' :=
  ref2Same_raw false none 0 0 false none 0 0 false none 0 0 false none 0 0 [] [] [] [] w (Lim.nil w) (Lim.nil w) (Lim.nil w) (Lim.nil w)
set_option maxRecDepth 100000 in
set_option maxHeartbeats 8000000 in
theorem FracWrong_any (bia : Bool) (aia : Option Addr) (kia cia : Nat) (dia : Bool) (eia : Option Addr) (lia mia : Nat) (bib : Bool) (aib : Option Addr) (kib cib : Nat) (dib : Bool) (eib : Option Addr) (lib mib : Nat) (n md : Int) (w : World) (hsh : ((decide (kia ≤ 300) && decide (lia ≤ 300)) && (decide (kib ≤ 300) && decide (lib ≤ 300))) = true)
    (hv : ∀ W, Below w.heap.size w W → Calls Tryz.prog 51 #[.agg #[.bool bia, .slice aia kia cia, .bool dia, .slice eia lia mia]] W fun e w' => e = .returned (.bool false) ∧ Below W.heap.size W w')
    (h0 : ∀ W, Below w.heap.size w W → Calls Tryz.prog 36 #[.agg #[.bool bia, .slice aia kia cia, .bool dia, .slice eia lia mia], .agg #[.bool bib, .slice aib kib cib, .bool dib, .slice eib lib mib]] W fun e w' => e = .returned (.tuple #[.agg #[.bool false, .slice none 0 0, .bool false, .slice none 0 0], .int .i64 2]) ∧ Below W.heap.size W w')
    (h1 : ∀ W, Below w.heap.size w W → Calls Tryz.prog 62 #[.agg #[.bool bib, .slice aib kib cib, .bool dib, .slice eib lib mib], .agg #[.bool bia, .slice aia kia cia, .bool dia, .slice eia lia mia]] W fun e w' => e = .returned (.tuple #[.agg #[.bool false, .slice none 0 0, .bool false, .slice none 0 0], .int .i64 2]) ∧ Below W.heap.size W w')
    (h2 : ∀ W, Below w.heap.size w W → Calls Tryz.prog 38 #[.agg #[.bool bia, .slice aia kia cia, .bool dia, .slice eia lia mia], .agg #[.bool bib, .slice aib kib cib, .bool dib, .slice eib lib mib]] W fun e w' => e = .returned (.tuple #[.agg #[.bool false, .slice none 0 0, .bool false, .slice none 0 0], .int .i64 2]) ∧ Below W.heap.size W w')
    (h3 : ∀ W, Below w.heap.size w W → Calls Tryz.prog 48 #[.agg #[.bool bib, .slice aib kib cib, .bool dib, .slice eib lib mib], .agg #[.bool bia, .slice aia kia cia, .bool dia, .slice eia lia mia]] W fun e w' => e = .returned (.tuple #[.agg #[.bool false, .slice none 0 0, .bool false, .slice none 0 0], .int .i64 2]) ∧ Below W.heap.size W w')
    (h4 : ∀ W, Below w.heap.size w W → Calls Tryz.prog 47 #[.agg #[.bool bia, .slice aia kia cia, .bool dia, .slice eia lia mia]] W fun e w' => e = .returned (.tuple #[.agg #[.bool false, .slice none 0 0, .bool false, .slice none 0 0], .int .i64 2]) ∧ Below W.heap.size W w')
    (h5 : ∀ W, Below w.heap.size w W → Calls Tryz.prog 32 #[.agg #[.bool bia, .slice aia kia cia, .bool dia, .slice eia lia mia], .int .i64 n] W fun e w' => e = .returned (.tuple #[.agg #[.bool false, .slice none 0 0, .bool false, .slice none 0 0], .int .i64 2]) ∧ Below W.heap.size W w')
    (h6 : ∀ W, Below w.heap.size w W → Calls Tryz.prog 27 #[.agg #[.bool bia, .slice aia kia cia, .bool dia, .slice eia lia mia], .agg #[.bool bib, .slice aib kib cib, .bool dib, .slice eib lib mib], .int .u8 md] W fun e w' => e = .returned (.tuple #[.agg #[.bool false, .slice none 0 0, .bool false, .slice none 0 0], .int .i64 2]) ∧ Below W.heap.size W w')
    (h7 : ∀ W, Below w.heap.size w W → Calls Tryz.prog 27 #[.agg #[.bool bib, .slice aib kib cib, .bool dib, .slice eib lib mib], .agg #[.bool bia, .slice aia kia cia, .bool dia, .slice eia lia mia], .int .u8 md] W fun e w' => e = .returned (.tuple #[.agg #[.bool false, .slice none 0 0, .bool false, .slice none 0 0], .int .i64 2]) ∧ Below W.heap.size W w')
    (hf : ∀ W, Below w.heap.size w W → Calls Tryz.prog 57 #[.agg #[.bool bia, .slice aia kia cia, .bool dia, .slice eia lia mia]] W fun e w' => e = .returned (.tuple #[.agg #[.bool false, .slice none 0 0], .int .i64 2]) ∧ Below W.heap.size W w')
    (hc : ∀ W, Below w.heap.size w W → Calls Tryz.prog 58 #[.agg #[.bool bia, .slice aia kia cia, .bool dia, .slice eia lia mia]] W fun e w' => e = .returned (.tuple #[.agg #[.bool false, .slice none 0 0], .int .i64 2]) ∧ Below W.heap.size W w')
    (hi : ∀ W, Below w.heap.size w W → Calls Tryz.prog 40 #[.agg #[.bool bia, .slice aia kia cia, .bool dia, .slice eia lia mia]] W fun e w' => e = .returned (.tuple #[.int .i64 0, .int .i64 2]) ∧ Below W.heap.size W w')
    (ht : ∀ W, Below w.heap.size w W → Calls Tryz.prog 60 #[.agg #[.bool bia, .slice aia kia cia, .bool dia, .slice eia lia mia]] W fun e w' => e = .returned (.tuple #[.string ⟨#[]⟩, .int .i64 2]) ∧ Below W.heap.size W w')
    (hp : ∀ W, Below w.heap.size w W → Calls Tryz.prog 52 #[.agg #[.bool bia, .slice aia kia cia, .bool dia, .slice eia lia mia], .agg #[.bool bib, .slice aib kib cib, .bool dib, .slice eib lib mib]] W fun e w' => e = .returned (.int .i64 0) ∧ Below W.heap.size W w')
    (hq : ∀ W, Below w.heap.size w W → Calls Tryz.prog 52 #[.agg #[.bool bib, .slice aib kib cib, .bool dib, .slice eib lib mib], .agg #[.bool bia, .slice aia kia cia, .bool dia, .slice eia lia mia]] W fun e w' => e = .returned (.int .i64 0) ∧ Below W.heap.size W w') :
    Calls Tryz.prog 14 #[.agg #[.bool bia, .slice aia kia cia, .bool dia, .slice eia lia mia], .agg #[.bool bib, .slice aib kib cib, .bool dib, .slice eib lib mib], .int .i64 n, .int .u8 md] w fun e w' => e = .returned (.bool true) ∧ Below w.heap.size w w' := by
  have HV := Lib.hid hv
  clear hv
  have H0 := Lib.hid h0
  clear h0
  have H1 := Lib.hid h1
  clear h1
  have H2 := Lib.hid h2
  clear h2
  have H3 := Lib.hid h3
  clear h3
  have H4 := Lib.hid h4
  clear h4
  have H5 := Lib.hid h5
  clear h5
  have H6 := Lib.hid h6
  clear h6
  have H7 := Lib.hid h7
  clear h7
  have HF := Lib.hid hf
  clear hf
  have HC := Lib.hid hc
  clear hc
  have HI := Lib.hid hi
  clear hi
  have HT := Lib.hid ht
  clear ht
  have HP := Lib.hid hp
  clear hp
  have HQ := Lib.hid hq
  clear hq
  have HZ := Lib.hid (fun W => ref2Same_zero W)
  have hm1 : ∀ w : World, (Instr.makeSlice 44 (.int .i64 8) (.int .i64 8)).run Tryz.prog w = .ok (.slice (some ⟨w.heap.size, 0, none⟩) 8 8) (w.alloc (.cells #[.bool false, .slice none 0 0, .bool false, .slice none 0 0, .bool false, .slice none 0 0, .bool false, .slice none 0 0, .bool false, .slice none 0 0, .bool false, .slice none 0 0, .bool false, .slice none 0 0, .bool false, .slice none 0 0, .bool false, .slice none 0 0, .bool false, .slice none 0 0, .bool false, .slice none 0 0, .bool false, .slice none 0 0, .bool false, .slice none 0 0, .bool false, .slice none 0 0, .bool false, .slice none 0 0, .bool false, .slice none 0 0] 26)) := fun _ => by kernel_rfl
  have hm2 : ∀ w : World, (Instr.makeSlice 68 (.int .i64 8) (.int .i64 8)).run Tryz.prog w = .ok (.slice (some ⟨w.heap.size, 0, none⟩) 8 8) (w.alloc (.cells #[.int .i64 0, .int .i64 0, .int .i64 0, .int .i64 0, .int .i64 0, .int .i64 0, .int .i64 0, .int .i64 0] 29)) := fun _ => by kernel_rfl
  have wi1 : IntKind.i64.wrap 1 = 1 := by decide
  have wi2 : IntKind.i64.wrap 2 = 2 := by decide
  have wi3 : IntKind.i64.wrap 3 = 3 := by decide
  have wi4 : IntKind.i64.wrap 4 = 4 := by decide
  have wi5 : IntKind.i64.wrap 5 = 5 := by decide
  have wi6 : IntKind.i64.wrap 6 = 6 := by decide
  have wi7 : IntKind.i64.wrap 7 = 7 := by decide
  have wi8 : IntKind.i64.wrap 8 = 8 := by decide
  have hB := Below.refl w.heap.size w
  obtain ⟨al, xia, hN⟩ := mk hB #[.bool bia, .slice aia kia cia, .bool dia, .slice eia lia mia] 26
  replace hB := hN
  clear al hN
  try simp only [World.size_alloc] at xia
  obtain ⟨al, xib, hN⟩ := mk hB #[.bool bib, .slice aib kib cib, .bool dib, .slice eib lib mib] 26
  replace xia := xia.on al
  replace hB := hN
  clear al hN
  try simp only [World.size_alloc] at xib
  go_enter Tryz.func14, Tryz.ntmps14
  go_wp2_with fail
  refine (law2_awake_any _).mono ?_
  rintro e w1 ⟨rfl, hb⟩
  replace xia := xia.on hb
  replace xib := xib.on hb
  have hz1 := hb.size
  try simp at hz1
  replace hB := hB.trans (hb.mono hB.size)
  clear hb
  have pia := xia.all4
  have pib := xib.all4
  have ltia := xia.lt
  have ltib := xib.lt
  go_wp2_with fail
  clear ltia
  clear ltib
  clear pia pib
  have hb := ((Below.refl w1.heap.size w1).alloc (Nat.le_refl _) (.cells #[.bool bia, .slice aia kia cia, .bool dia, .slice eia lia mia, .bool bib, .slice aib kib cib, .bool dib, .slice eib lib mib] 26))
  have xrow : Bk _ w1.heap.size #[.bool bia, .slice aia kia cia, .bool dia, .slice eia lia mia, .bool bib, .slice aib kib cib, .bool dib, .slice eib lib mib] 26 := (Bk.new w1 #[.bool bia, .slice aia kia cia, .bool dia, .slice eia lia mia, .bool bib, .slice aib kib cib, .bool dib, .slice eib lib mib] 26)
  replace xia := xia.on hb
  replace xib := xib.on hb
  replace hB := hB.trans (hb.mono hB.size)
  clear hb
  have rw0 := xrow.cell 0
  have rw1 := xrow.cell 1
  have rw2 := xrow.cell 2
  have rw3 := xrow.cell 3
  have rw4 := xrow.cell 4
  have rw5 := xrow.cell 5
  have rw6 := xrow.cell 6
  have rw7 := xrow.cell 7
  simp only [List.getElem?_toArray, List.getElem?_cons_zero, List.getElem?_cons_succ] at rw0 rw1 rw2 rw3 rw4 rw5 rw6 rw7
  refine (short2_any 300 w1.heap.size bia aia kia cia dia eia lia mia bib aib kib cib dib eib lib mib _ rw0 rw1 rw2 rw3 rw4 rw5 rw6 rw7).mono ?_
  rintro e w2 ⟨rfl, hb⟩
  clear xrow rw0 rw1 rw2 rw3 rw4 rw5 rw6 rw7
  replace xia := xia.on hb
  replace xib := xib.on hb
  replace hB := hB.trans (hb.mono hB.size)
  clear hb
  rw [hsh]
  clear hsh
  have pia := xia.all4
  have pib := xib.all4
  have ltia := xia.lt
  have ltib := xib.lt
  go_wp2_with fail
  clear ltia
  clear ltib
  clear pia pib
  refine (HV.out _ hB).mono ?_
  rintro e w3 ⟨rfl, hb⟩
  replace xia := xia.on hb
  replace xib := xib.on hb
  have hz3 := hb.size
  try simp at hz3
  replace hB := hB.trans (hb.mono hB.size)
  clear hb
  have pia0 := xia.cell 0
  have pia1 := xia.cell 1
  have pia2 := xia.cell 2
  have pia3 := xia.cell 3
  have pib0 := xib.cell 0
  have pib1 := xib.cell 1
  have pib2 := xib.cell 2
  have pib3 := xib.cell 3
  simp only [List.getElem?_toArray, List.getElem?_cons_zero, List.getElem?_cons_succ] at pia0 pia1 pia2 pia3 pib0 pib1 pib2 pib3
  have ltia := xia.lt
  have ltib := xib.lt
  go_wp2_with fail
  clear pia0 pia1 pia2 pia3 pib0 pib1 pib2 pib3 ltia ltib
  have lz0 := xib.lt
  have xq := Bk.new (w3.alloc (.cells #[.bool false, .slice none 0 0, .bool false, .slice none 0 0, .bool false, .slice none 0 0, .bool false, .slice none 0 0, .bool false, .slice none 0 0, .bool false, .slice none 0 0, .bool false, .slice none 0 0, .bool false, .slice none 0 0, .bool false, .slice none 0 0, .bool false, .slice none 0 0, .bool false, .slice none 0 0, .bool false, .slice none 0 0, .bool false, .slice none 0 0, .bool false, .slice none 0 0, .bool false, .slice none 0 0, .bool false, .slice none 0 0] 26)) #[.int .i64 0, .int .i64 0, .int .i64 0, .int .i64 0, .int .i64 0, .int .i64 0, .int .i64 0, .int .i64 0] 29
  rw [World.size_alloc] at xq
  have hb := (((Below.refl w3.heap.size w3).alloc (Nat.le_refl _) (.cells #[.bool false, .slice none 0 0, .bool false, .slice none 0 0, .bool false, .slice none 0 0, .bool false, .slice none 0 0, .bool false, .slice none 0 0, .bool false, .slice none 0 0, .bool false, .slice none 0 0, .bool false, .slice none 0 0, .bool false, .slice none 0 0, .bool false, .slice none 0 0, .bool false, .slice none 0 0, .bool false, .slice none 0 0, .bool false, .slice none 0 0, .bool false, .slice none 0 0, .bool false, .slice none 0 0, .bool false, .slice none 0 0] 26)).alloc (by simp) (.cells #[.int .i64 0, .int .i64 0, .int .i64 0, .int .i64 0, .int .i64 0, .int .i64 0, .int .i64 0, .int .i64 0] 29))
  have xl : Bk _ (w3.heap.size) #[.bool false, .slice none 0 0, .bool false, .slice none 0 0, .bool false, .slice none 0 0, .bool false, .slice none 0 0, .bool false, .slice none 0 0, .bool false, .slice none 0 0, .bool false, .slice none 0 0, .bool false, .slice none 0 0, .bool false, .slice none 0 0, .bool false, .slice none 0 0, .bool false, .slice none 0 0, .bool false, .slice none 0 0, .bool false, .slice none 0 0, .bool false, .slice none 0 0, .bool false, .slice none 0 0, .bool false, .slice none 0 0] 26 := (Bk.new w3 #[.bool false, .slice none 0 0, .bool false, .slice none 0 0, .bool false, .slice none 0 0, .bool false, .slice none 0 0, .bool false, .slice none 0 0, .bool false, .slice none 0 0, .bool false, .slice none 0 0, .bool false, .slice none 0 0, .bool false, .slice none 0 0, .bool false, .slice none 0 0, .bool false, .slice none 0 0, .bool false, .slice none 0 0, .bool false, .slice none 0 0, .bool false, .slice none 0 0, .bool false, .slice none 0 0, .bool false, .slice none 0 0] 26).alloc (.cells #[.int .i64 0, .int .i64 0, .int .i64 0, .int .i64 0, .int .i64 0, .int .i64 0, .int .i64 0, .int .i64 0] 29)
  have xer : Bk _ (w3.heap.size + 1) #[.int .i64 0, .int .i64 0, .int .i64 0, .int .i64 0, .int .i64 0, .int .i64 0, .int .i64 0, .int .i64 0] 29 := xq
  clear xq
  replace xia := xia.on hb
  replace xib := xib.on hb
  replace hB := hB.trans (hb.mono hB.size)
  clear hb
  clear hm1 hm2
  obtain ⟨we, hwe⟩ : ∃ W, W = ((w3.alloc (.cells #[.bool false, .slice none 0 0, .bool false, .slice none 0 0, .bool false, .slice none 0 0, .bool false, .slice none 0 0, .bool false, .slice none 0 0, .bool false, .slice none 0 0, .bool false, .slice none 0 0, .bool false, .slice none 0 0, .bool false, .slice none 0 0, .bool false, .slice none 0 0, .bool false, .slice none 0 0, .bool false, .slice none 0 0, .bool false, .slice none 0 0, .bool false, .slice none 0 0, .bool false, .slice none 0 0, .bool false, .slice none 0 0] 26)).alloc (.cells #[.int .i64 0, .int .i64 0, .int .i64 0, .int .i64 0, .int .i64 0, .int .i64 0, .int .i64 0, .int .i64 0] 29)) := ⟨_, rfl⟩
  rw [← hwe] at hB xia xib xl xer ⊢
  clear hwe
  refine (H0.out _ hB).mono ?_
  rintro e w4 ⟨rfl, hb⟩
  replace xia := xia.on hb
  replace xib := xib.on hb
  replace xl := xl.on hb
  replace xer := xer.on hb
  have hz4 := hb.size
  try simp at hz4
  replace hB := hB.trans (hb.mono hB.size)
  clear hb
  have pia0 := xia.cell 0
  have pia1 := xia.cell 1
  have pia2 := xia.cell 2
  have pia3 := xia.cell 3
  have pib0 := xib.cell 0
  have pib1 := xib.cell 1
  have pib2 := xib.cell 2
  have pib3 := xib.cell 3
  have pl0 := xl.cell 0
  have fl0 := xl.free 0
  have pl1 := xl.cell 1
  have fl1 := xl.free 1
  have pl2 := xl.cell 2
  have fl2 := xl.free 2
  have pl3 := xl.cell 3
  have fl3 := xl.free 3
  have per0 := xer.cell 0
  have fer0 := xer.free 0
  simp only [List.getElem?_toArray, List.getElem?_cons_zero, List.getElem?_cons_succ] at pia0 pia1 pia2 pia3 pib0 pib1 pib2 pib3 pl0 pl1 pl2 pl3 per0
  have ltia := xia.lt
  have ltib := xib.lt
  have ltl := xl.lt
  have lter := xer.lt
  go_wp2_with fail
  clear pia0 pia1 pia2 pia3 pib0 pib1 pib2 pib3 pl0 fl0 pl1 fl1 pl2 fl2 pl3 fl3 per0 fer0 ltia ltib ltl lter
  replace xia := xia.put_other w3.heap.size 0 (.bool false) (by omega)
  replace xib := xib.put_other w3.heap.size 0 (.bool false) (by omega)
  replace xer := xer.put_other w3.heap.size 0 (.bool false) (by omega)
  replace xl : Bk _ w3.heap.size #[.bool false, .slice none 0 0, .bool false, .slice none 0 0, .bool false, .slice none 0 0, .bool false, .slice none 0 0, .bool false, .slice none 0 0, .bool false, .slice none 0 0, .bool false, .slice none 0 0, .bool false, .slice none 0 0, .bool false, .slice none 0 0, .bool false, .slice none 0 0, .bool false, .slice none 0 0, .bool false, .slice none 0 0, .bool false, .slice none 0 0, .bool false, .slice none 0 0, .bool false, .slice none 0 0, .bool false, .slice none 0 0] _ := xl.put 0 (.bool false)
  replace hB := hB.setCell (p := ⟨w3.heap.size, 0, none⟩) (by first | omega | (simp; omega) | simp) (.bool false)
  skip
  replace xia := xia.put_other w3.heap.size 1 (.slice none 0 0) (by omega)
  replace xib := xib.put_other w3.heap.size 1 (.slice none 0 0) (by omega)
  replace xer := xer.put_other w3.heap.size 1 (.slice none 0 0) (by omega)
  replace xl : Bk _ w3.heap.size #[.bool false, .slice none 0 0, .bool false, .slice none 0 0, .bool false, .slice none 0 0, .bool false, .slice none 0 0, .bool false, .slice none 0 0, .bool false, .slice none 0 0, .bool false, .slice none 0 0, .bool false, .slice none 0 0, .bool false, .slice none 0 0, .bool false, .slice none 0 0, .bool false, .slice none 0 0, .bool false, .slice none 0 0, .bool false, .slice none 0 0, .bool false, .slice none 0 0, .bool false, .slice none 0 0, .bool false, .slice none 0 0] _ := xl.put 1 (.slice none 0 0)
  replace hB := hB.setCell (p := ⟨w3.heap.size, 1, none⟩) (by first | omega | (simp; omega) | simp) (.slice none 0 0)
  skip
  replace xia := xia.put_other w3.heap.size 2 (.bool false) (by omega)
  replace xib := xib.put_other w3.heap.size 2 (.bool false) (by omega)
  replace xer := xer.put_other w3.heap.size 2 (.bool false) (by omega)
  replace xl : Bk _ w3.heap.size #[.bool false, .slice none 0 0, .bool false, .slice none 0 0, .bool false, .slice none 0 0, .bool false, .slice none 0 0, .bool false, .slice none 0 0, .bool false, .slice none 0 0, .bool false, .slice none 0 0, .bool false, .slice none 0 0, .bool false, .slice none 0 0, .bool false, .slice none 0 0, .bool false, .slice none 0 0, .bool false, .slice none 0 0, .bool false, .slice none 0 0, .bool false, .slice none 0 0, .bool false, .slice none 0 0, .bool false, .slice none 0 0] _ := xl.put 2 (.bool false)
  replace hB := hB.setCell (p := ⟨w3.heap.size, 2, none⟩) (by first | omega | (simp; omega) | simp) (.bool false)
  skip
  replace xia := xia.put_other w3.heap.size 3 (.slice none 0 0) (by omega)
  replace xib := xib.put_other w3.heap.size 3 (.slice none 0 0) (by omega)
  replace xer := xer.put_other w3.heap.size 3 (.slice none 0 0) (by omega)
  replace xl : Bk _ w3.heap.size #[.bool false, .slice none 0 0, .bool false, .slice none 0 0, .bool false, .slice none 0 0, .bool false, .slice none 0 0, .bool false, .slice none 0 0, .bool false, .slice none 0 0, .bool false, .slice none 0 0, .bool false, .slice none 0 0, .bool false, .slice none 0 0, .bool false, .slice none 0 0, .bool false, .slice none 0 0, .bool false, .slice none 0 0, .bool false, .slice none 0 0, .bool false, .slice none 0 0, .bool false, .slice none 0 0, .bool false, .slice none 0 0] _ := xl.put 3 (.slice none 0 0)
  replace hB := hB.setCell (p := ⟨w3.heap.size, 3, none⟩) (by first | omega | (simp; omega) | simp) (.slice none 0 0)
  skip
  replace xia := xia.put_other (w3.heap.size + 1) 0 (.int .i64 2) (by omega)
  replace xib := xib.put_other (w3.heap.size + 1) 0 (.int .i64 2) (by omega)
  replace xl := xl.put_other (w3.heap.size + 1) 0 (.int .i64 2) (by omega)
  replace xer : Bk _ (w3.heap.size + 1) #[.int .i64 2, .int .i64 0, .int .i64 0, .int .i64 0, .int .i64 0, .int .i64 0, .int .i64 0, .int .i64 0] _ := xer.put 0 (.int .i64 2)
  replace hB := hB.setCell (p := ⟨w3.heap.size + 1, 0, none⟩) (by first | omega | (simp; omega) | simp) (.int .i64 2)
  obtain ⟨wc1, hwc1⟩ : ∃ W, W = (((((w4.setCell ⟨w3.heap.size, 0, none⟩ (.bool false)).setCell ⟨w3.heap.size, 1, none⟩ (.slice none 0 0)).setCell ⟨w3.heap.size, 2, none⟩ (.bool false)).setCell ⟨w3.heap.size, 3, none⟩ (.slice none 0 0)).setCell ⟨w3.heap.size + 1, 0, none⟩ (.int .i64 2)) := ⟨_, rfl⟩
  rw [← hwc1] at hB xia xib xl xer ⊢
  clear hwc1
  refine (H1.out _ hB).mono ?_
  rintro e w5 ⟨rfl, hb⟩
  replace xia := xia.on hb
  replace xib := xib.on hb
  replace xl := xl.on hb
  replace xer := xer.on hb
  have hz5 := hb.size
  try simp at hz5
  replace hB := hB.trans (hb.mono hB.size)
  clear hb
  have pia0 := xia.cell 0
  have pia1 := xia.cell 1
  have pia2 := xia.cell 2
  have pia3 := xia.cell 3
  have pib0 := xib.cell 0
  have pib1 := xib.cell 1
  have pib2 := xib.cell 2
  have pib3 := xib.cell 3
  have pl4 := xl.cell 4
  have fl4 := xl.free 4
  have pl5 := xl.cell 5
  have fl5 := xl.free 5
  have pl6 := xl.cell 6
  have fl6 := xl.free 6
  have pl7 := xl.cell 7
  have fl7 := xl.free 7
  have per1 := xer.cell 1
  have fer1 := xer.free 1
  simp only [List.getElem?_toArray, List.getElem?_cons_zero, List.getElem?_cons_succ] at pia0 pia1 pia2 pia3 pib0 pib1 pib2 pib3 pl4 pl5 pl6 pl7 per1
  have ltia := xia.lt
  have ltib := xib.lt
  have ltl := xl.lt
  have lter := xer.lt
  go_wp2_with fail
  clear pia0 pia1 pia2 pia3 pib0 pib1 pib2 pib3 pl4 fl4 pl5 fl5 pl6 fl6 pl7 fl7 per1 fer1 ltia ltib ltl lter
  replace xia := xia.put_other w3.heap.size 4 (.bool false) (by omega)
  replace xib := xib.put_other w3.heap.size 4 (.bool false) (by omega)
  replace xer := xer.put_other w3.heap.size 4 (.bool false) (by omega)
  replace xl : Bk _ w3.heap.size #[.bool false, .slice none 0 0, .bool false, .slice none 0 0, .bool false, .slice none 0 0, .bool false, .slice none 0 0, .bool false, .slice none 0 0, .bool false, .slice none 0 0, .bool false, .slice none 0 0, .bool false, .slice none 0 0, .bool false, .slice none 0 0, .bool false, .slice none 0 0, .bool false, .slice none 0 0, .bool false, .slice none 0 0, .bool false, .slice none 0 0, .bool false, .slice none 0 0, .bool false, .slice none 0 0, .bool false, .slice none 0 0] _ := xl.put 4 (.bool false)
  replace hB := hB.setCell (p := ⟨w3.heap.size, 4, none⟩) (by first | omega | (simp; omega) | simp) (.bool false)
  skip
  replace xia := xia.put_other w3.heap.size 5 (.slice none 0 0) (by omega)
  replace xib := xib.put_other w3.heap.size 5 (.slice none 0 0) (by omega)
  replace xer := xer.put_other w3.heap.size 5 (.slice none 0 0) (by omega)
  replace xl : Bk _ w3.heap.size #[.bool false, .slice none 0 0, .bool false, .slice none 0 0, .bool false, .slice none 0 0, .bool false, .slice none 0 0, .bool false, .slice none 0 0, .bool false, .slice none 0 0, .bool false, .slice none 0 0, .bool false, .slice none 0 0, .bool false, .slice none 0 0, .bool false, .slice none 0 0, .bool false, .slice none 0 0, .bool false, .slice none 0 0, .bool false, .slice none 0 0, .bool false, .slice none 0 0, .bool false, .slice none 0 0, .bool false, .slice none 0 0] _ := xl.put 5 (.slice none 0 0)
  replace hB := hB.setCell (p := ⟨w3.heap.size, 5, none⟩) (by first | omega | (simp; omega) | simp) (.slice none 0 0)
  skip
  replace xia := xia.put_other w3.heap.size 6 (.bool false) (by omega)
  replace xib := xib.put_other w3.heap.size 6 (.bool false) (by omega)
  replace xer := xer.put_other w3.heap.size 6 (.bool false) (by omega)
  replace xl : Bk _ w3.heap.size #[.bool false, .slice none 0 0, .bool false, .slice none 0 0, .bool false, .slice none 0 0, .bool false, .slice none 0 0, .bool false, .slice none 0 0, .bool false, .slice none 0 0, .bool false, .slice none 0 0, .bool false, .slice none 0 0, .bool false, .slice none 0 0, .bool false, .slice none 0 0, .bool false, .slice none 0 0, .bool false, .slice none 0 0, .bool false, .slice none 0 0, .bool false, .slice none 0 0, .bool false, .slice none 0 0, .bool false, .slice none 0 0] _ := xl.put 6 (.bool false)
  replace hB := hB.setCell (p := ⟨w3.heap.size, 6, none⟩) (by first | omega | (simp; omega) | simp) (.bool false)
  skip
  replace xia := xia.put_other w3.heap.size 7 (.slice none 0 0) (by omega)
  replace xib := xib.put_other w3.heap.size 7 (.slice none 0 0) (by omega)
  replace xer := xer.put_other w3.heap.size 7 (.slice none 0 0) (by omega)
  replace xl : Bk _ w3.heap.size #[.bool false, .slice none 0 0, .bool false, .slice none 0 0, .bool false, .slice none 0 0, .bool false, .slice none 0 0, .bool false, .slice none 0 0, .bool false, .slice none 0 0, .bool false, .slice none 0 0, .bool false, .slice none 0 0, .bool false, .slice none 0 0, .bool false, .slice none 0 0, .bool false, .slice none 0 0, .bool false, .slice none 0 0, .bool false, .slice none 0 0, .bool false, .slice none 0 0, .bool false, .slice none 0 0, .bool false, .slice none 0 0] _ := xl.put 7 (.slice none 0 0)
  replace hB := hB.setCell (p := ⟨w3.heap.size, 7, none⟩) (by first | omega | (simp; omega) | simp) (.slice none 0 0)
  skip
  replace xia := xia.put_other (w3.heap.size + 1) 1 (.int .i64 2) (by omega)
  replace xib := xib.put_other (w3.heap.size + 1) 1 (.int .i64 2) (by omega)
  replace xl := xl.put_other (w3.heap.size + 1) 1 (.int .i64 2) (by omega)
  replace xer : Bk _ (w3.heap.size + 1) #[.int .i64 2, .int .i64 2, .int .i64 0, .int .i64 0, .int .i64 0, .int .i64 0, .int .i64 0, .int .i64 0] _ := xer.put 1 (.int .i64 2)
  replace hB := hB.setCell (p := ⟨w3.heap.size + 1, 1, none⟩) (by first | omega | (simp; omega) | simp) (.int .i64 2)
  obtain ⟨wc2, hwc2⟩ : ∃ W, W = (((((w5.setCell ⟨w3.heap.size, 4, none⟩ (.bool false)).setCell ⟨w3.heap.size, 5, none⟩ (.slice none 0 0)).setCell ⟨w3.heap.size, 6, none⟩ (.bool false)).setCell ⟨w3.heap.size, 7, none⟩ (.slice none 0 0)).setCell ⟨w3.heap.size + 1, 1, none⟩ (.int .i64 2)) := ⟨_, rfl⟩
  rw [← hwc2] at hB xia xib xl xer ⊢
  clear hwc2
  refine (H2.out _ hB).mono ?_
  rintro e w6 ⟨rfl, hb⟩
  replace xia := xia.on hb
  replace xib := xib.on hb
  replace xl := xl.on hb
  replace xer := xer.on hb
  have hz6 := hb.size
  try simp at hz6
  replace hB := hB.trans (hb.mono hB.size)
  clear hb
  have pia0 := xia.cell 0
  have pia1 := xia.cell 1
  have pia2 := xia.cell 2
  have pia3 := xia.cell 3
  have pib0 := xib.cell 0
  have pib1 := xib.cell 1
  have pib2 := xib.cell 2
  have pib3 := xib.cell 3
  have pl8 := xl.cell 8
  have fl8 := xl.free 8
  have pl9 := xl.cell 9
  have fl9 := xl.free 9
  have pl10 := xl.cell 10
  have fl10 := xl.free 10
  have pl11 := xl.cell 11
  have fl11 := xl.free 11
  have per2 := xer.cell 2
  have fer2 := xer.free 2
  simp only [List.getElem?_toArray, List.getElem?_cons_zero, List.getElem?_cons_succ] at pia0 pia1 pia2 pia3 pib0 pib1 pib2 pib3 pl8 pl9 pl10 pl11 per2
  have ltia := xia.lt
  have ltib := xib.lt
  have ltl := xl.lt
  have lter := xer.lt
  go_wp2_with fail
  clear pia0 pia1 pia2 pia3 pib0 pib1 pib2 pib3 pl8 fl8 pl9 fl9 pl10 fl10 pl11 fl11 per2 fer2 ltia ltib ltl lter
  replace xia := xia.put_other w3.heap.size 8 (.bool false) (by omega)
  replace xib := xib.put_other w3.heap.size 8 (.bool false) (by omega)
  replace xer := xer.put_other w3.heap.size 8 (.bool false) (by omega)
  replace xl : Bk _ w3.heap.size #[.bool false, .slice none 0 0, .bool false, .slice none 0 0, .bool false, .slice none 0 0, .bool false, .slice none 0 0, .bool false, .slice none 0 0, .bool false, .slice none 0 0, .bool false, .slice none 0 0, .bool false, .slice none 0 0, .bool false, .slice none 0 0, .bool false, .slice none 0 0, .bool false, .slice none 0 0, .bool false, .slice none 0 0, .bool false, .slice none 0 0, .bool false, .slice none 0 0, .bool false, .slice none 0 0, .bool false, .slice none 0 0] _ := xl.put 8 (.bool false)
  replace hB := hB.setCell (p := ⟨w3.heap.size, 8, none⟩) (by first | omega | (simp; omega) | simp) (.bool false)
  skip
  replace xia := xia.put_other w3.heap.size 9 (.slice none 0 0) (by omega)
  replace xib := xib.put_other w3.heap.size 9 (.slice none 0 0) (by omega)
  replace xer := xer.put_other w3.heap.size 9 (.slice none 0 0) (by omega)
  replace xl : Bk _ w3.heap.size #[.bool false, .slice none 0 0, .bool false, .slice none 0 0, .bool false, .slice none 0 0, .bool false, .slice none 0 0, .bool false, .slice none 0 0, .bool false, .slice none 0 0, .bool false, .slice none 0 0, .bool false, .slice none 0 0, .bool false, .slice none 0 0, .bool false, .slice none 0 0, .bool false, .slice none 0 0, .bool false, .slice none 0 0, .bool false, .slice none 0 0, .bool false, .slice none 0 0, .bool false, .slice none 0 0, .bool false, .slice none 0 0] _ := xl.put 9 (.slice none 0 0)
  replace hB := hB.setCell (p := ⟨w3.heap.size, 9, none⟩) (by first | omega | (simp; omega) | simp) (.slice none 0 0)
  skip
  replace xia := xia.put_other w3.heap.size 10 (.bool false) (by omega)
  replace xib := xib.put_other w3.heap.size 10 (.bool false) (by omega)
  replace xer := xer.put_other w3.heap.size 10 (.bool false) (by omega)
  replace xl : Bk _ w3.heap.size #[.bool false, .slice none 0 0, .bool false, .slice none 0 0, .bool false, .slice none 0 0, .bool false, .slice none 0 0, .bool false, .slice none 0 0, .bool false, .slice none 0 0, .bool false, .slice none 0 0, .bool false, .slice none 0 0, .bool false, .slice none 0 0, .bool false, .slice none 0 0, .bool false, .slice none 0 0, .bool false, .slice none 0 0, .bool false, .slice none 0 0, .bool false, .slice none 0 0, .bool false, .slice none 0 0, .bool false, .slice none 0 0] _ := xl.put 10 (.bool false)
  replace hB := hB.setCell (p := ⟨w3.heap.size, 10, none⟩) (by first | omega | (simp; omega) | simp) (.bool false)
  skip
  replace xia := xia.put_other w3.heap.size 11 (.slice none 0 0) (by omega)
  replace xib := xib.put_other w3.heap.size 11 (.slice none 0 0) (by omega)
  replace xer := xer.put_other w3.heap.size 11 (.slice none 0 0) (by omega)
  replace xl : Bk _ w3.heap.size #[.bool false, .slice none 0 0, .bool false, .slice none 0 0, .bool false, .slice none 0 0, .bool false, .slice none 0 0, .bool false, .slice none 0 0, .bool false, .slice none 0 0, .bool false, .slice none 0 0, .bool false, .slice none 0 0, .bool false, .slice none 0 0, .bool false, .slice none 0 0, .bool false, .slice none 0 0, .bool false, .slice none 0 0, .bool false, .slice none 0 0, .bool false, .slice none 0 0, .bool false, .slice none 0 0, .bool false, .slice none 0 0] _ := xl.put 11 (.slice none 0 0)
  replace hB := hB.setCell (p := ⟨w3.heap.size, 11, none⟩) (by first | omega | (simp; omega) | simp) (.slice none 0 0)
  skip
  replace xia := xia.put_other (w3.heap.size + 1) 2 (.int .i64 2) (by omega)
  replace xib := xib.put_other (w3.heap.size + 1) 2 (.int .i64 2) (by omega)
  replace xl := xl.put_other (w3.heap.size + 1) 2 (.int .i64 2) (by omega)
  replace xer : Bk _ (w3.heap.size + 1) #[.int .i64 2, .int .i64 2, .int .i64 2, .int .i64 0, .int .i64 0, .int .i64 0, .int .i64 0, .int .i64 0] _ := xer.put 2 (.int .i64 2)
  replace hB := hB.setCell (p := ⟨w3.heap.size + 1, 2, none⟩) (by first | omega | (simp; omega) | simp) (.int .i64 2)
  obtain ⟨wc3, hwc3⟩ : ∃ W, W = (((((w6.setCell ⟨w3.heap.size, 8, none⟩ (.bool false)).setCell ⟨w3.heap.size, 9, none⟩ (.slice none 0 0)).setCell ⟨w3.heap.size, 10, none⟩ (.bool false)).setCell ⟨w3.heap.size, 11, none⟩ (.slice none 0 0)).setCell ⟨w3.heap.size + 1, 2, none⟩ (.int .i64 2)) := ⟨_, rfl⟩
  rw [← hwc3] at hB xia xib xl xer ⊢
  clear hwc3
  refine (H3.out _ hB).mono ?_
  rintro e w7 ⟨rfl, hb⟩
  replace xia := xia.on hb
  replace xib := xib.on hb
  replace xl := xl.on hb
  replace xer := xer.on hb
  have hz7 := hb.size
  try simp at hz7
  replace hB := hB.trans (hb.mono hB.size)
  clear hb
  have pia0 := xia.cell 0
  have pia1 := xia.cell 1
  have pia2 := xia.cell 2
  have pia3 := xia.cell 3
  have pl12 := xl.cell 12
  have fl12 := xl.free 12
  have pl13 := xl.cell 13
  have fl13 := xl.free 13
  have pl14 := xl.cell 14
  have fl14 := xl.free 14
  have pl15 := xl.cell 15
  have fl15 := xl.free 15
  have per3 := xer.cell 3
  have fer3 := xer.free 3
  simp only [List.getElem?_toArray, List.getElem?_cons_zero, List.getElem?_cons_succ] at pia0 pia1 pia2 pia3 pl12 pl13 pl14 pl15 per3
  have ltia := xia.lt
  have ltib := xib.lt
  have ltl := xl.lt
  have lter := xer.lt
  go_wp2_with fail
  clear pia0 pia1 pia2 pia3 pl12 fl12 pl13 fl13 pl14 fl14 pl15 fl15 per3 fer3 ltia ltib ltl lter
  replace xia := xia.put_other w3.heap.size 12 (.bool false) (by omega)
  replace xib := xib.put_other w3.heap.size 12 (.bool false) (by omega)
  replace xer := xer.put_other w3.heap.size 12 (.bool false) (by omega)
  replace xl : Bk _ w3.heap.size #[.bool false, .slice none 0 0, .bool false, .slice none 0 0, .bool false, .slice none 0 0, .bool false, .slice none 0 0, .bool false, .slice none 0 0, .bool false, .slice none 0 0, .bool false, .slice none 0 0, .bool false, .slice none 0 0, .bool false, .slice none 0 0, .bool false, .slice none 0 0, .bool false, .slice none 0 0, .bool false, .slice none 0 0, .bool false, .slice none 0 0, .bool false, .slice none 0 0, .bool false, .slice none 0 0, .bool false, .slice none 0 0] _ := xl.put 12 (.bool false)
  replace hB := hB.setCell (p := ⟨w3.heap.size, 12, none⟩) (by first | omega | (simp; omega) | simp) (.bool false)
  skip
  replace xia := xia.put_other w3.heap.size 13 (.slice none 0 0) (by omega)
  replace xib := xib.put_other w3.heap.size 13 (.slice none 0 0) (by omega)
  replace xer := xer.put_other w3.heap.size 13 (.slice none 0 0) (by omega)
  replace xl : Bk _ w3.heap.size #[.bool false, .slice none 0 0, .bool false, .slice none 0 0, .bool false, .slice none 0 0, .bool false, .slice none 0 0, .bool false, .slice none 0 0, .bool false, .slice none 0 0, .bool false, .slice none 0 0, .bool false, .slice none 0 0, .bool false, .slice none 0 0, .bool false, .slice none 0 0, .bool false, .slice none 0 0, .bool false, .slice none 0 0, .bool false, .slice none 0 0, .bool false, .slice none 0 0, .bool false, .slice none 0 0, .bool false, .slice none 0 0] _ := xl.put 13 (.slice none 0 0)
  replace hB := hB.setCell (p := ⟨w3.heap.size, 13, none⟩) (by first | omega | (simp; omega) | simp) (.slice none 0 0)
  skip
  replace xia := xia.put_other w3.heap.size 14 (.bool false) (by omega)
  replace xib := xib.put_other w3.heap.size 14 (.bool false) (by omega)
  replace xer := xer.put_other w3.heap.size 14 (.bool false) (by omega)
  replace xl : Bk _ w3.heap.size #[.bool false, .slice none 0 0, .bool false, .slice none 0 0, .bool false, .slice none 0 0, .bool false, .slice none 0 0, .bool false, .slice none 0 0, .bool false, .slice none 0 0, .bool false, .slice none 0 0, .bool false, .slice none 0 0, .bool false, .slice none 0 0, .bool false, .slice none 0 0, .bool false, .slice none 0 0, .bool false, .slice none 0 0, .bool false, .slice none 0 0, .bool false, .slice none 0 0, .bool false, .slice none 0 0, .bool false, .slice none 0 0] _ := xl.put 14 (.bool false)
  replace hB := hB.setCell (p := ⟨w3.heap.size, 14, none⟩) (by first | omega | (simp; omega) | simp) (.bool false)
  skip
  replace xia := xia.put_other w3.heap.size 15 (.slice none 0 0) (by omega)
  replace xib := xib.put_other w3.heap.size 15 (.slice none 0 0) (by omega)
  replace xer := xer.put_other w3.heap.size 15 (.slice none 0 0) (by omega)
  replace xl : Bk _ w3.heap.size #[.bool false, .slice none 0 0, .bool false, .slice none 0 0, .bool false, .slice none 0 0, .bool false, .slice none 0 0, .bool false, .slice none 0 0, .bool false, .slice none 0 0, .bool false, .slice none 0 0, .bool false, .slice none 0 0, .bool false, .slice none 0 0, .bool false, .slice none 0 0, .bool false, .slice none 0 0, .bool false, .slice none 0 0, .bool false, .slice none 0 0, .bool false, .slice none 0 0, .bool false, .slice none 0 0, .bool false, .slice none 0 0] _ := xl.put 15 (.slice none 0 0)
  replace hB := hB.setCell (p := ⟨w3.heap.size, 15, none⟩) (by first | omega | (simp; omega) | simp) (.slice none 0 0)
  skip
  replace xia := xia.put_other (w3.heap.size + 1) 3 (.int .i64 2) (by omega)
  replace xib := xib.put_other (w3.heap.size + 1) 3 (.int .i64 2) (by omega)
  replace xl := xl.put_other (w3.heap.size + 1) 3 (.int .i64 2) (by omega)
  replace xer : Bk _ (w3.heap.size + 1) #[.int .i64 2, .int .i64 2, .int .i64 2, .int .i64 2, .int .i64 0, .int .i64 0, .int .i64 0, .int .i64 0] _ := xer.put 3 (.int .i64 2)
  replace hB := hB.setCell (p := ⟨w3.heap.size + 1, 3, none⟩) (by first | omega | (simp; omega) | simp) (.int .i64 2)
  obtain ⟨wc4, hwc4⟩ : ∃ W, W = (((((w7.setCell ⟨w3.heap.size, 12, none⟩ (.bool false)).setCell ⟨w3.heap.size, 13, none⟩ (.slice none 0 0)).setCell ⟨w3.heap.size, 14, none⟩ (.bool false)).setCell ⟨w3.heap.size, 15, none⟩ (.slice none 0 0)).setCell ⟨w3.heap.size + 1, 3, none⟩ (.int .i64 2)) := ⟨_, rfl⟩
  rw [← hwc4] at hB xia xib xl xer ⊢
  clear hwc4
  refine (H4.out _ hB).mono ?_
  rintro e w8 ⟨rfl, hb⟩
  replace xia := xia.on hb
  replace xib := xib.on hb
  replace xl := xl.on hb
  replace xer := xer.on hb
  have hz8 := hb.size
  try simp at hz8
  replace hB := hB.trans (hb.mono hB.size)
  clear hb
  have pia0 := xia.cell 0
  have pia1 := xia.cell 1
  have pia2 := xia.cell 2
  have pia3 := xia.cell 3
  have pl16 := xl.cell 16
  have fl16 := xl.free 16
  have pl17 := xl.cell 17
  have fl17 := xl.free 17
  have pl18 := xl.cell 18
  have fl18 := xl.free 18
  have pl19 := xl.cell 19
  have fl19 := xl.free 19
  have per4 := xer.cell 4
  have fer4 := xer.free 4
  simp only [List.getElem?_toArray, List.getElem?_cons_zero, List.getElem?_cons_succ] at pia0 pia1 pia2 pia3 pl16 pl17 pl18 pl19 per4
  have ltia := xia.lt
  have ltib := xib.lt
  have ltl := xl.lt
  have lter := xer.lt
  go_wp2_with fail
  clear pia0 pia1 pia2 pia3 pl16 fl16 pl17 fl17 pl18 fl18 pl19 fl19 per4 fer4 ltia ltib ltl lter
  replace xia := xia.put_other w3.heap.size 16 (.bool false) (by omega)
  replace xib := xib.put_other w3.heap.size 16 (.bool false) (by omega)
  replace xer := xer.put_other w3.heap.size 16 (.bool false) (by omega)
  replace xl : Bk _ w3.heap.size #[.bool false, .slice none 0 0, .bool false, .slice none 0 0, .bool false, .slice none 0 0, .bool false, .slice none 0 0, .bool false, .slice none 0 0, .bool false, .slice none 0 0, .bool false, .slice none 0 0, .bool false, .slice none 0 0, .bool false, .slice none 0 0, .bool false, .slice none 0 0, .bool false, .slice none 0 0, .bool false, .slice none 0 0, .bool false, .slice none 0 0, .bool false, .slice none 0 0, .bool false, .slice none 0 0, .bool false, .slice none 0 0] _ := xl.put 16 (.bool false)
  replace hB := hB.setCell (p := ⟨w3.heap.size, 16, none⟩) (by first | omega | (simp; omega) | simp) (.bool false)
  skip
  replace xia := xia.put_other w3.heap.size 17 (.slice none 0 0) (by omega)
  replace xib := xib.put_other w3.heap.size 17 (.slice none 0 0) (by omega)
  replace xer := xer.put_other w3.heap.size 17 (.slice none 0 0) (by omega)
  replace xl : Bk _ w3.heap.size #[.bool false, .slice none 0 0, .bool false, .slice none 0 0, .bool false, .slice none 0 0, .bool false, .slice none 0 0, .bool false, .slice none 0 0, .bool false, .slice none 0 0, .bool false, .slice none 0 0, .bool false, .slice none 0 0, .bool false, .slice none 0 0, .bool false, .slice none 0 0, .bool false, .slice none 0 0, .bool false, .slice none 0 0, .bool false, .slice none 0 0, .bool false, .slice none 0 0, .bool false, .slice none 0 0, .bool false, .slice none 0 0] _ := xl.put 17 (.slice none 0 0)
  replace hB := hB.setCell (p := ⟨w3.heap.size, 17, none⟩) (by first | omega | (simp; omega) | simp) (.slice none 0 0)
  skip
  replace xia := xia.put_other w3.heap.size 18 (.bool false) (by omega)
  replace xib := xib.put_other w3.heap.size 18 (.bool false) (by omega)
  replace xer := xer.put_other w3.heap.size 18 (.bool false) (by omega)
  replace xl : Bk _ w3.heap.size #[.bool false, .slice none 0 0, .bool false, .slice none 0 0, .bool false, .slice none 0 0, .bool false, .slice none 0 0, .bool false, .slice none 0 0, .bool false, .slice none 0 0, .bool false, .slice none 0 0, .bool false, .slice none 0 0, .bool false, .slice none 0 0, .bool false, .slice none 0 0, .bool false, .slice none 0 0, .bool false, .slice none 0 0, .bool false, .slice none 0 0, .bool false, .slice none 0 0, .bool false, .slice none 0 0, .bool false, .slice none 0 0] _ := xl.put 18 (.bool false)
  replace hB := hB.setCell (p := ⟨w3.heap.size, 18, none⟩) (by first | omega | (simp; omega) | simp) (.bool false)
  skip
  replace xia := xia.put_other w3.heap.size 19 (.slice none 0 0) (by omega)
  replace xib := xib.put_other w3.heap.size 19 (.slice none 0 0) (by omega)
  replace xer := xer.put_other w3.heap.size 19 (.slice none 0 0) (by omega)
  replace xl : Bk _ w3.heap.size #[.bool false, .slice none 0 0, .bool false, .slice none 0 0, .bool false, .slice none 0 0, .bool false, .slice none 0 0, .bool false, .slice none 0 0, .bool false, .slice none 0 0, .bool false, .slice none 0 0, .bool false, .slice none 0 0, .bool false, .slice none 0 0, .bool false, .slice none 0 0, .bool false, .slice none 0 0, .bool false, .slice none 0 0, .bool false, .slice none 0 0, .bool false, .slice none 0 0, .bool false, .slice none 0 0, .bool false, .slice none 0 0] _ := xl.put 19 (.slice none 0 0)
  replace hB := hB.setCell (p := ⟨w3.heap.size, 19, none⟩) (by first | omega | (simp; omega) | simp) (.slice none 0 0)
  skip
  replace xia := xia.put_other (w3.heap.size + 1) 4 (.int .i64 2) (by omega)
  replace xib := xib.put_other (w3.heap.size + 1) 4 (.int .i64 2) (by omega)
  replace xl := xl.put_other (w3.heap.size + 1) 4 (.int .i64 2) (by omega)
  replace xer : Bk _ (w3.heap.size + 1) #[.int .i64 2, .int .i64 2, .int .i64 2, .int .i64 2, .int .i64 2, .int .i64 0, .int .i64 0, .int .i64 0] _ := xer.put 4 (.int .i64 2)
  replace hB := hB.setCell (p := ⟨w3.heap.size + 1, 4, none⟩) (by first | omega | (simp; omega) | simp) (.int .i64 2)
  obtain ⟨wc5, hwc5⟩ : ∃ W, W = (((((w8.setCell ⟨w3.heap.size, 16, none⟩ (.bool false)).setCell ⟨w3.heap.size, 17, none⟩ (.slice none 0 0)).setCell ⟨w3.heap.size, 18, none⟩ (.bool false)).setCell ⟨w3.heap.size, 19, none⟩ (.slice none 0 0)).setCell ⟨w3.heap.size + 1, 4, none⟩ (.int .i64 2)) := ⟨_, rfl⟩
  rw [← hwc5] at hB xia xib xl xer ⊢
  clear hwc5
  refine (H5.out _ hB).mono ?_
  rintro e w9 ⟨rfl, hb⟩
  replace xia := xia.on hb
  replace xib := xib.on hb
  replace xl := xl.on hb
  replace xer := xer.on hb
  have hz9 := hb.size
  try simp at hz9
  replace hB := hB.trans (hb.mono hB.size)
  clear hb
  have pia0 := xia.cell 0
  have pia1 := xia.cell 1
  have pia2 := xia.cell 2
  have pia3 := xia.cell 3
  have pib0 := xib.cell 0
  have pib1 := xib.cell 1
  have pib2 := xib.cell 2
  have pib3 := xib.cell 3
  have pl20 := xl.cell 20
  have fl20 := xl.free 20
  have pl21 := xl.cell 21
  have fl21 := xl.free 21
  have pl22 := xl.cell 22
  have fl22 := xl.free 22
  have pl23 := xl.cell 23
  have fl23 := xl.free 23
  have per5 := xer.cell 5
  have fer5 := xer.free 5
  simp only [List.getElem?_toArray, List.getElem?_cons_zero, List.getElem?_cons_succ] at pia0 pia1 pia2 pia3 pib0 pib1 pib2 pib3 pl20 pl21 pl22 pl23 per5
  have ltia := xia.lt
  have ltib := xib.lt
  have ltl := xl.lt
  have lter := xer.lt
  go_wp2_with fail
  clear pia0 pia1 pia2 pia3 pib0 pib1 pib2 pib3 pl20 fl20 pl21 fl21 pl22 fl22 pl23 fl23 per5 fer5 ltia ltib ltl lter
  replace xia := xia.put_other w3.heap.size 20 (.bool false) (by omega)
  replace xib := xib.put_other w3.heap.size 20 (.bool false) (by omega)
  replace xer := xer.put_other w3.heap.size 20 (.bool false) (by omega)
  replace xl : Bk _ w3.heap.size #[.bool false, .slice none 0 0, .bool false, .slice none 0 0, .bool false, .slice none 0 0, .bool false, .slice none 0 0, .bool false, .slice none 0 0, .bool false, .slice none 0 0, .bool false, .slice none 0 0, .bool false, .slice none 0 0, .bool false, .slice none 0 0, .bool false, .slice none 0 0, .bool false, .slice none 0 0, .bool false, .slice none 0 0, .bool false, .slice none 0 0, .bool false, .slice none 0 0, .bool false, .slice none 0 0, .bool false, .slice none 0 0] _ := xl.put 20 (.bool false)
  replace hB := hB.setCell (p := ⟨w3.heap.size, 20, none⟩) (by first | omega | (simp; omega) | simp) (.bool false)
  skip
  replace xia := xia.put_other w3.heap.size 21 (.slice none 0 0) (by omega)
  replace xib := xib.put_other w3.heap.size 21 (.slice none 0 0) (by omega)
  replace xer := xer.put_other w3.heap.size 21 (.slice none 0 0) (by omega)
  replace xl : Bk _ w3.heap.size #[.bool false, .slice none 0 0, .bool false, .slice none 0 0, .bool false, .slice none 0 0, .bool false, .slice none 0 0, .bool false, .slice none 0 0, .bool false, .slice none 0 0, .bool false, .slice none 0 0, .bool false, .slice none 0 0, .bool false, .slice none 0 0, .bool false, .slice none 0 0, .bool false, .slice none 0 0, .bool false, .slice none 0 0, .bool false, .slice none 0 0, .bool false, .slice none 0 0, .bool false, .slice none 0 0, .bool false, .slice none 0 0] _ := xl.put 21 (.slice none 0 0)
  replace hB := hB.setCell (p := ⟨w3.heap.size, 21, none⟩) (by first | omega | (simp; omega) | simp) (.slice none 0 0)
  skip
  replace xia := xia.put_other w3.heap.size 22 (.bool false) (by omega)
  replace xib := xib.put_other w3.heap.size 22 (.bool false) (by omega)
  replace xer := xer.put_other w3.heap.size 22 (.bool false) (by omega)
  replace xl : Bk _ w3.heap.size #[.bool false, .slice none 0 0, .bool false, .slice none 0 0, .bool false, .slice none 0 0, .bool false, .slice none 0 0, .bool false, .slice none 0 0, .bool false, .slice none 0 0, .bool false, .slice none 0 0, .bool false, .slice none 0 0, .bool false, .slice none 0 0, .bool false, .slice none 0 0, .bool false, .slice none 0 0, .bool false, .slice none 0 0, .bool false, .slice none 0 0, .bool false, .slice none 0 0, .bool false, .slice none 0 0, .bool false, .slice none 0 0] _ := xl.put 22 (.bool false)
  replace hB := hB.setCell (p := ⟨w3.heap.size, 22, none⟩) (by first | omega | (simp; omega) | simp) (.bool false)
  skip
  replace xia := xia.put_other w3.heap.size 23 (.slice none 0 0) (by omega)
  replace xib := xib.put_other w3.heap.size 23 (.slice none 0 0) (by omega)
  replace xer := xer.put_other w3.heap.size 23 (.slice none 0 0) (by omega)
  replace xl : Bk _ w3.heap.size #[.bool false, .slice none 0 0, .bool false, .slice none 0 0, .bool false, .slice none 0 0, .bool false, .slice none 0 0, .bool false, .slice none 0 0, .bool false, .slice none 0 0, .bool false, .slice none 0 0, .bool false, .slice none 0 0, .bool false, .slice none 0 0, .bool false, .slice none 0 0, .bool false, .slice none 0 0, .bool false, .slice none 0 0, .bool false, .slice none 0 0, .bool false, .slice none 0 0, .bool false, .slice none 0 0, .bool false, .slice none 0 0] _ := xl.put 23 (.slice none 0 0)
  replace hB := hB.setCell (p := ⟨w3.heap.size, 23, none⟩) (by first | omega | (simp; omega) | simp) (.slice none 0 0)
  skip
  replace xia := xia.put_other (w3.heap.size + 1) 5 (.int .i64 2) (by omega)
  replace xib := xib.put_other (w3.heap.size + 1) 5 (.int .i64 2) (by omega)
  replace xl := xl.put_other (w3.heap.size + 1) 5 (.int .i64 2) (by omega)
  replace xer : Bk _ (w3.heap.size + 1) #[.int .i64 2, .int .i64 2, .int .i64 2, .int .i64 2, .int .i64 2, .int .i64 2, .int .i64 0, .int .i64 0] _ := xer.put 5 (.int .i64 2)
  replace hB := hB.setCell (p := ⟨w3.heap.size + 1, 5, none⟩) (by first | omega | (simp; omega) | simp) (.int .i64 2)
  obtain ⟨wc6, hwc6⟩ : ∃ W, W = (((((w9.setCell ⟨w3.heap.size, 20, none⟩ (.bool false)).setCell ⟨w3.heap.size, 21, none⟩ (.slice none 0 0)).setCell ⟨w3.heap.size, 22, none⟩ (.bool false)).setCell ⟨w3.heap.size, 23, none⟩ (.slice none 0 0)).setCell ⟨w3.heap.size + 1, 5, none⟩ (.int .i64 2)) := ⟨_, rfl⟩
  rw [← hwc6] at hB xia xib xl xer ⊢
  clear hwc6
  refine (H6.out _ hB).mono ?_
  rintro e w10 ⟨rfl, hb⟩
  replace xia := xia.on hb
  replace xib := xib.on hb
  replace xl := xl.on hb
  replace xer := xer.on hb
  have hz10 := hb.size
  try simp at hz10
  replace hB := hB.trans (hb.mono hB.size)
  clear hb
  have pia0 := xia.cell 0
  have pia1 := xia.cell 1
  have pia2 := xia.cell 2
  have pia3 := xia.cell 3
  have pib0 := xib.cell 0
  have pib1 := xib.cell 1
  have pib2 := xib.cell 2
  have pib3 := xib.cell 3
  have pl24 := xl.cell 24
  have fl24 := xl.free 24
  have pl25 := xl.cell 25
  have fl25 := xl.free 25
  have pl26 := xl.cell 26
  have fl26 := xl.free 26
  have pl27 := xl.cell 27
  have fl27 := xl.free 27
  have per6 := xer.cell 6
  have fer6 := xer.free 6
  simp only [List.getElem?_toArray, List.getElem?_cons_zero, List.getElem?_cons_succ] at pia0 pia1 pia2 pia3 pib0 pib1 pib2 pib3 pl24 pl25 pl26 pl27 per6
  have ltia := xia.lt
  have ltib := xib.lt
  have ltl := xl.lt
  have lter := xer.lt
  go_wp2_with fail
  clear pia0 pia1 pia2 pia3 pib0 pib1 pib2 pib3 pl24 fl24 pl25 fl25 pl26 fl26 pl27 fl27 per6 fer6 ltia ltib ltl lter
  replace xia := xia.put_other w3.heap.size 24 (.bool false) (by omega)
  replace xib := xib.put_other w3.heap.size 24 (.bool false) (by omega)
  replace xer := xer.put_other w3.heap.size 24 (.bool false) (by omega)
  replace xl : Bk _ w3.heap.size #[.bool false, .slice none 0 0, .bool false, .slice none 0 0, .bool false, .slice none 0 0, .bool false, .slice none 0 0, .bool false, .slice none 0 0, .bool false, .slice none 0 0, .bool false, .slice none 0 0, .bool false, .slice none 0 0, .bool false, .slice none 0 0, .bool false, .slice none 0 0, .bool false, .slice none 0 0, .bool false, .slice none 0 0, .bool false, .slice none 0 0, .bool false, .slice none 0 0, .bool false, .slice none 0 0, .bool false, .slice none 0 0] _ := xl.put 24 (.bool false)
  replace hB := hB.setCell (p := ⟨w3.heap.size, 24, none⟩) (by first | omega | (simp; omega) | simp) (.bool false)
  skip
  replace xia := xia.put_other w3.heap.size 25 (.slice none 0 0) (by omega)
  replace xib := xib.put_other w3.heap.size 25 (.slice none 0 0) (by omega)
  replace xer := xer.put_other w3.heap.size 25 (.slice none 0 0) (by omega)
  replace xl : Bk _ w3.heap.size #[.bool false, .slice none 0 0, .bool false, .slice none 0 0, .bool false, .slice none 0 0, .bool false, .slice none 0 0, .bool false, .slice none 0 0, .bool false, .slice none 0 0, .bool false, .slice none 0 0, .bool false, .slice none 0 0, .bool false, .slice none 0 0, .bool false, .slice none 0 0, .bool false, .slice none 0 0, .bool false, .slice none 0 0, .bool false, .slice none 0 0, .bool false, .slice none 0 0, .bool false, .slice none 0 0, .bool false, .slice none 0 0] _ := xl.put 25 (.slice none 0 0)
  replace hB := hB.setCell (p := ⟨w3.heap.size, 25, none⟩) (by first | omega | (simp; omega) | simp) (.slice none 0 0)
  skip
  replace xia := xia.put_other w3.heap.size 26 (.bool false) (by omega)
  replace xib := xib.put_other w3.heap.size 26 (.bool false) (by omega)
  replace xer := xer.put_other w3.heap.size 26 (.bool false) (by omega)
  replace xl : Bk _ w3.heap.size #[.bool false, .slice none 0 0, .bool false, .slice none 0 0, .bool false, .slice none 0 0, .bool false, .slice none 0 0, .bool false, .slice none 0 0, .bool false, .slice none 0 0, .bool false, .slice none 0 0, .bool false, .slice none 0 0, .bool false, .slice none 0 0, .bool false, .slice none 0 0, .bool false, .slice none 0 0, .bool false, .slice none 0 0, .bool false, .slice none 0 0, .bool false, .slice none 0 0, .bool false, .slice none 0 0, .bool false, .slice none 0 0] _ := xl.put 26 (.bool false)
  replace hB := hB.setCell (p := ⟨w3.heap.size, 26, none⟩) (by first | omega | (simp; omega) | simp) (.bool false)
  skip
  replace xia := xia.put_other w3.heap.size 27 (.slice none 0 0) (by omega)
  replace xib := xib.put_other w3.heap.size 27 (.slice none 0 0) (by omega)
  replace xer := xer.put_other w3.heap.size 27 (.slice none 0 0) (by omega)
  replace xl : Bk _ w3.heap.size #[.bool false, .slice none 0 0, .bool false, .slice none 0 0, .bool false, .slice none 0 0, .bool false, .slice none 0 0, .bool false, .slice none 0 0, .bool false, .slice none 0 0, .bool false, .slice none 0 0, .bool false, .slice none 0 0, .bool false, .slice none 0 0, .bool false, .slice none 0 0, .bool false, .slice none 0 0, .bool false, .slice none 0 0, .bool false, .slice none 0 0, .bool false, .slice none 0 0, .bool false, .slice none 0 0, .bool false, .slice none 0 0] _ := xl.put 27 (.slice none 0 0)
  replace hB := hB.setCell (p := ⟨w3.heap.size, 27, none⟩) (by first | omega | (simp; omega) | simp) (.slice none 0 0)
  skip
  replace xia := xia.put_other (w3.heap.size + 1) 6 (.int .i64 2) (by omega)
  replace xib := xib.put_other (w3.heap.size + 1) 6 (.int .i64 2) (by omega)
  replace xl := xl.put_other (w3.heap.size + 1) 6 (.int .i64 2) (by omega)
  replace xer : Bk _ (w3.heap.size + 1) #[.int .i64 2, .int .i64 2, .int .i64 2, .int .i64 2, .int .i64 2, .int .i64 2, .int .i64 2, .int .i64 0] _ := xer.put 6 (.int .i64 2)
  replace hB := hB.setCell (p := ⟨w3.heap.size + 1, 6, none⟩) (by first | omega | (simp; omega) | simp) (.int .i64 2)
  obtain ⟨wc7, hwc7⟩ : ∃ W, W = (((((w10.setCell ⟨w3.heap.size, 24, none⟩ (.bool false)).setCell ⟨w3.heap.size, 25, none⟩ (.slice none 0 0)).setCell ⟨w3.heap.size, 26, none⟩ (.bool false)).setCell ⟨w3.heap.size, 27, none⟩ (.slice none 0 0)).setCell ⟨w3.heap.size + 1, 6, none⟩ (.int .i64 2)) := ⟨_, rfl⟩
  rw [← hwc7] at hB xia xib xl xer ⊢
  clear hwc7
  refine (H7.out _ hB).mono ?_
  rintro e w11 ⟨rfl, hb⟩
  replace xia := xia.on hb
  replace xib := xib.on hb
  replace xl := xl.on hb
  replace xer := xer.on hb
  have hz11 := hb.size
  try simp at hz11
  replace hB := hB.trans (hb.mono hB.size)
  clear hb
  have pl28 := xl.cell 28
  have fl28 := xl.free 28
  have pl29 := xl.cell 29
  have fl29 := xl.free 29
  have pl30 := xl.cell 30
  have fl30 := xl.free 30
  have pl31 := xl.cell 31
  have fl31 := xl.free 31
  have per7 := xer.cell 7
  have fer7 := xer.free 7
  simp only [List.getElem?_toArray, List.getElem?_cons_zero, List.getElem?_cons_succ] at pl28 pl29 pl30 pl31 per7
  have ltia := xia.lt
  have ltib := xib.lt
  have ltl := xl.lt
  have lter := xer.lt
  go_wp2_with fail
  clear pl28 fl28 pl29 fl29 pl30 fl30 pl31 fl31 per7 fer7 ltia ltib ltl lter
  replace xia := xia.put_other w3.heap.size 28 (.bool false) (by omega)
  replace xib := xib.put_other w3.heap.size 28 (.bool false) (by omega)
  replace xer := xer.put_other w3.heap.size 28 (.bool false) (by omega)
  replace xl : Bk _ w3.heap.size #[.bool false, .slice none 0 0, .bool false, .slice none 0 0, .bool false, .slice none 0 0, .bool false, .slice none 0 0, .bool false, .slice none 0 0, .bool false, .slice none 0 0, .bool false, .slice none 0 0, .bool false, .slice none 0 0, .bool false, .slice none 0 0, .bool false, .slice none 0 0, .bool false, .slice none 0 0, .bool false, .slice none 0 0, .bool false, .slice none 0 0, .bool false, .slice none 0 0, .bool false, .slice none 0 0, .bool false, .slice none 0 0] _ := xl.put 28 (.bool false)
  replace hB := hB.setCell (p := ⟨w3.heap.size, 28, none⟩) (by first | omega | (simp; omega) | simp) (.bool false)
  skip
  replace xia := xia.put_other w3.heap.size 29 (.slice none 0 0) (by omega)
  replace xib := xib.put_other w3.heap.size 29 (.slice none 0 0) (by omega)
  replace xer := xer.put_other w3.heap.size 29 (.slice none 0 0) (by omega)
  replace xl : Bk _ w3.heap.size #[.bool false, .slice none 0 0, .bool false, .slice none 0 0, .bool false, .slice none 0 0, .bool false, .slice none 0 0, .bool false, .slice none 0 0, .bool false, .slice none 0 0, .bool false, .slice none 0 0, .bool false, .slice none 0 0, .bool false, .slice none 0 0, .bool false, .slice none 0 0, .bool false, .slice none 0 0, .bool false, .slice none 0 0, .bool false, .slice none 0 0, .bool false, .slice none 0 0, .bool false, .slice none 0 0, .bool false, .slice none 0 0] _ := xl.put 29 (.slice none 0 0)
  replace hB := hB.setCell (p := ⟨w3.heap.size, 29, none⟩) (by first | omega | (simp; omega) | simp) (.slice none 0 0)
  skip
  replace xia := xia.put_other w3.heap.size 30 (.bool false) (by omega)
  replace xib := xib.put_other w3.heap.size 30 (.bool false) (by omega)
  replace xer := xer.put_other w3.heap.size 30 (.bool false) (by omega)
  replace xl : Bk _ w3.heap.size #[.bool false, .slice none 0 0, .bool false, .slice none 0 0, .bool false, .slice none 0 0, .bool false, .slice none 0 0, .bool false, .slice none 0 0, .bool false, .slice none 0 0, .bool false, .slice none 0 0, .bool false, .slice none 0 0, .bool false, .slice none 0 0, .bool false, .slice none 0 0, .bool false, .slice none 0 0, .bool false, .slice none 0 0, .bool false, .slice none 0 0, .bool false, .slice none 0 0, .bool false, .slice none 0 0, .bool false, .slice none 0 0] _ := xl.put 30 (.bool false)
  replace hB := hB.setCell (p := ⟨w3.heap.size, 30, none⟩) (by first | omega | (simp; omega) | simp) (.bool false)
  skip
  replace xia := xia.put_other w3.heap.size 31 (.slice none 0 0) (by omega)
  replace xib := xib.put_other w3.heap.size 31 (.slice none 0 0) (by omega)
  replace xer := xer.put_other w3.heap.size 31 (.slice none 0 0) (by omega)
  replace xl : Bk _ w3.heap.size #[.bool false, .slice none 0 0, .bool false, .slice none 0 0, .bool false, .slice none 0 0, .bool false, .slice none 0 0, .bool false, .slice none 0 0, .bool false, .slice none 0 0, .bool false, .slice none 0 0, .bool false, .slice none 0 0, .bool false, .slice none 0 0, .bool false, .slice none 0 0, .bool false, .slice none 0 0, .bool false, .slice none 0 0, .bool false, .slice none 0 0, .bool false, .slice none 0 0, .bool false, .slice none 0 0, .bool false, .slice none 0 0] _ := xl.put 31 (.slice none 0 0)
  replace hB := hB.setCell (p := ⟨w3.heap.size, 31, none⟩) (by first | omega | (simp; omega) | simp) (.slice none 0 0)
  skip
  replace xia := xia.put_other (w3.heap.size + 1) 7 (.int .i64 2) (by omega)
  replace xib := xib.put_other (w3.heap.size + 1) 7 (.int .i64 2) (by omega)
  replace xl := xl.put_other (w3.heap.size + 1) 7 (.int .i64 2) (by omega)
  replace xer : Bk _ (w3.heap.size + 1) #[.int .i64 2, .int .i64 2, .int .i64 2, .int .i64 2, .int .i64 2, .int .i64 2, .int .i64 2, .int .i64 2] _ := xer.put 7 (.int .i64 2)
  replace hB := hB.setCell (p := ⟨w3.heap.size + 1, 7, none⟩) (by first | omega | (simp; omega) | simp) (.int .i64 2)
  obtain ⟨wc8, hwc8⟩ : ∃ W, W = (((((w11.setCell ⟨w3.heap.size, 28, none⟩ (.bool false)).setCell ⟨w3.heap.size, 29, none⟩ (.slice none 0 0)).setCell ⟨w3.heap.size, 30, none⟩ (.bool false)).setCell ⟨w3.heap.size, 31, none⟩ (.slice none 0 0)).setCell ⟨w3.heap.size + 1, 7, none⟩ (.int .i64 2)) := ⟨_, rfl⟩
  rw [← hwc8] at hB xia xib xl xer ⊢
  clear hwc8
  refine wp_loop_rounds 9 ?_
  rw [rounds_succ]
  have pl0 := xl.cell 0
  have pl1 := xl.cell 1
  have pl2 := xl.cell 2
  have pl3 := xl.cell 3
  have per0 := xer.cell 0
  simp only [List.getElem?_toArray, List.getElem?_cons_zero, List.getElem?_cons_succ] at pl0 pl1 pl2 pl3 per0
  have ltia := xia.lt
  have ltib := xib.lt
  have ltl := xl.lt
  have lter := xer.lt
  go_wp2_with fail
  clear pl0 pl1 pl2 pl3 per0 ltia ltib ltl lter
  refine (HZ.out _).mono ?_
  rintro e w12 ⟨rfl, hb⟩
  replace xia := xia.on hb
  replace xib := xib.on hb
  replace xl := xl.on hb
  replace xer := xer.on hb
  have hz12 := hb.size
  try simp at hz12
  replace hB := hB.trans (hb.mono hB.size)
  clear hb
  go_wp2_with fail
  rw [rounds_succ]
  have pl4 := xl.cell 4
  have pl5 := xl.cell 5
  have pl6 := xl.cell 6
  have pl7 := xl.cell 7
  have per1 := xer.cell 1
  simp only [List.getElem?_toArray, List.getElem?_cons_zero, List.getElem?_cons_succ] at pl4 pl5 pl6 pl7 per1
  have ltia := xia.lt
  have ltib := xib.lt
  have ltl := xl.lt
  have lter := xer.lt
  go_wp2_with fail
  clear pl4 pl5 pl6 pl7 per1 ltia ltib ltl lter
  refine (HZ.out _).mono ?_
  rintro e w13 ⟨rfl, hb⟩
  replace xia := xia.on hb
  replace xib := xib.on hb
  replace xl := xl.on hb
  replace xer := xer.on hb
  have hz13 := hb.size
  try simp at hz13
  replace hB := hB.trans (hb.mono hB.size)
  clear hb
  go_wp2_with fail
  rw [rounds_succ]
  have pl8 := xl.cell 8
  have pl9 := xl.cell 9
  have pl10 := xl.cell 10
  have pl11 := xl.cell 11
  have per2 := xer.cell 2
  simp only [List.getElem?_toArray, List.getElem?_cons_zero, List.getElem?_cons_succ] at pl8 pl9 pl10 pl11 per2
  have ltia := xia.lt
  have ltib := xib.lt
  have ltl := xl.lt
  have lter := xer.lt
  go_wp2_with fail
  clear pl8 pl9 pl10 pl11 per2 ltia ltib ltl lter
  refine (HZ.out _).mono ?_
  rintro e w14 ⟨rfl, hb⟩
  replace xia := xia.on hb
  replace xib := xib.on hb
  replace xl := xl.on hb
  replace xer := xer.on hb
  have hz14 := hb.size
  try simp at hz14
  replace hB := hB.trans (hb.mono hB.size)
  clear hb
  go_wp2_with fail
  rw [rounds_succ]
  have pl12 := xl.cell 12
  have pl13 := xl.cell 13
  have pl14 := xl.cell 14
  have pl15 := xl.cell 15
  have per3 := xer.cell 3
  simp only [List.getElem?_toArray, List.getElem?_cons_zero, List.getElem?_cons_succ] at pl12 pl13 pl14 pl15 per3
  have ltia := xia.lt
  have ltib := xib.lt
  have ltl := xl.lt
  have lter := xer.lt
  go_wp2_with fail
  clear pl12 pl13 pl14 pl15 per3 ltia ltib ltl lter
  refine (HZ.out _).mono ?_
  rintro e w15 ⟨rfl, hb⟩
  replace xia := xia.on hb
  replace xib := xib.on hb
  replace xl := xl.on hb
  replace xer := xer.on hb
  have hz15 := hb.size
  try simp at hz15
  replace hB := hB.trans (hb.mono hB.size)
  clear hb
  go_wp2_with fail
  rw [rounds_succ]
  have pl16 := xl.cell 16
  have pl17 := xl.cell 17
  have pl18 := xl.cell 18
  have pl19 := xl.cell 19
  have per4 := xer.cell 4
  simp only [List.getElem?_toArray, List.getElem?_cons_zero, List.getElem?_cons_succ] at pl16 pl17 pl18 pl19 per4
  have ltia := xia.lt
  have ltib := xib.lt
  have ltl := xl.lt
  have lter := xer.lt
  go_wp2_with fail
  clear pl16 pl17 pl18 pl19 per4 ltia ltib ltl lter
  refine (HZ.out _).mono ?_
  rintro e w16 ⟨rfl, hb⟩
  replace xia := xia.on hb
  replace xib := xib.on hb
  replace xl := xl.on hb
  replace xer := xer.on hb
  have hz16 := hb.size
  try simp at hz16
  replace hB := hB.trans (hb.mono hB.size)
  clear hb
  go_wp2_with fail
  rw [rounds_succ]
  have pl20 := xl.cell 20
  have pl21 := xl.cell 21
  have pl22 := xl.cell 22
  have pl23 := xl.cell 23
  have per5 := xer.cell 5
  simp only [List.getElem?_toArray, List.getElem?_cons_zero, List.getElem?_cons_succ] at pl20 pl21 pl22 pl23 per5
  have ltia := xia.lt
  have ltib := xib.lt
  have ltl := xl.lt
  have lter := xer.lt
  go_wp2_with fail
  clear pl20 pl21 pl22 pl23 per5 ltia ltib ltl lter
  refine (HZ.out _).mono ?_
  rintro e w17 ⟨rfl, hb⟩
  replace xia := xia.on hb
  replace xib := xib.on hb
  replace xl := xl.on hb
  replace xer := xer.on hb
  have hz17 := hb.size
  try simp at hz17
  replace hB := hB.trans (hb.mono hB.size)
  clear hb
  go_wp2_with fail
  rw [rounds_succ]
  have pl24 := xl.cell 24
  have pl25 := xl.cell 25
  have pl26 := xl.cell 26
  have pl27 := xl.cell 27
  have per6 := xer.cell 6
  simp only [List.getElem?_toArray, List.getElem?_cons_zero, List.getElem?_cons_succ] at pl24 pl25 pl26 pl27 per6
  have ltia := xia.lt
  have ltib := xib.lt
  have ltl := xl.lt
  have lter := xer.lt
  go_wp2_with fail
  clear pl24 pl25 pl26 pl27 per6 ltia ltib ltl lter
  refine (HZ.out _).mono ?_
  rintro e w18 ⟨rfl, hb⟩
  replace xia := xia.on hb
  replace xib := xib.on hb
  replace xl := xl.on hb
  replace xer := xer.on hb
  have hz18 := hb.size
  try simp at hz18
  replace hB := hB.trans (hb.mono hB.size)
  clear hb
  go_wp2_with fail
  rw [rounds_succ]
  have pl28 := xl.cell 28
  have pl29 := xl.cell 29
  have pl30 := xl.cell 30
  have pl31 := xl.cell 31
  have per7 := xer.cell 7
  simp only [List.getElem?_toArray, List.getElem?_cons_zero, List.getElem?_cons_succ] at pl28 pl29 pl30 pl31 per7
  have ltia := xia.lt
  have ltib := xib.lt
  have ltl := xl.lt
  have lter := xer.lt
  go_wp2_with fail
  clear pl28 pl29 pl30 pl31 per7 ltia ltib ltl lter
  refine (HZ.out _).mono ?_
  rintro e w19 ⟨rfl, hb⟩
  replace xia := xia.on hb
  replace xib := xib.on hb
  replace xl := xl.on hb
  replace xer := xer.on hb
  have hz19 := hb.size
  try simp at hz19
  replace hB := hB.trans (hb.mono hB.size)
  clear hb
  go_wp2_with fail
  rw [rounds_succ]
  clear xl
  clear xer
  have pia0 := xia.cell 0
  have pia1 := xia.cell 1
  have pia2 := xia.cell 2
  have pia3 := xia.cell 3
  simp only [List.getElem?_toArray, List.getElem?_cons_zero, List.getElem?_cons_succ] at pia0 pia1 pia2 pia3
  have ltia := xia.lt
  have ltib := xib.lt
  go_wp2_with fail
  clear pia0 pia1 pia2 pia3 ltia ltib
  refine (HF.out _ hB).mono ?_
  rintro e w20 ⟨rfl, hb⟩
  replace xia := xia.on hb
  replace xib := xib.on hb
  have hz20 := hb.size
  try simp at hz20
  replace hB := hB.trans (hb.mono hB.size)
  clear hb
  have pia0 := xia.cell 0
  have pia1 := xia.cell 1
  have pia2 := xia.cell 2
  have pia3 := xia.cell 3
  simp only [List.getElem?_toArray, List.getElem?_cons_zero, List.getElem?_cons_succ] at pia0 pia1 pia2 pia3
  have ltia := xia.lt
  have ltib := xib.lt
  go_wp2_with fail
  clear pia0 pia1 pia2 pia3 ltia ltib
  have hb := ((Below.refl w20.heap.size w20).alloc (Nat.le_refl _) (.cells #[.bool false, .slice none 0 0] 24))
  have xf : Bk _ w20.heap.size #[.bool false, .slice none 0 0] 24 := (Bk.new w20 #[.bool false, .slice none 0 0] 24)
  replace xia := xia.on hb
  replace xib := xib.on hb
  replace hB := hB.trans (hb.mono hB.size)
  clear hb
  obtain ⟨wf, hwf⟩ : ∃ W, W = (w20.alloc (.cells #[.bool false, .slice none 0 0] 24)) := ⟨_, rfl⟩
  rw [← hwf] at hB xia xib xf ⊢
  clear hwf
  refine (HC.out _ hB).mono ?_
  rintro e w21 ⟨rfl, hb⟩
  replace xia := xia.on hb
  replace xib := xib.on hb
  replace xf := xf.on hb
  have hz21 := hb.size
  try simp at hz21
  replace hB := hB.trans (hb.mono hB.size)
  clear hb
  have pia0 := xia.cell 0
  have pia1 := xia.cell 1
  have pia2 := xia.cell 2
  have pia3 := xia.cell 3
  simp only [List.getElem?_toArray, List.getElem?_cons_zero, List.getElem?_cons_succ] at pia0 pia1 pia2 pia3
  have ltia := xia.lt
  have ltib := xib.lt
  have ltf := xf.lt
  go_wp2_with fail
  clear pia0 pia1 pia2 pia3 ltia ltib ltf
  have hb := ((Below.refl w21.heap.size w21).alloc (Nat.le_refl _) (.cells #[.bool false, .slice none 0 0] 24))
  have xc : Bk _ w21.heap.size #[.bool false, .slice none 0 0] 24 := (Bk.new w21 #[.bool false, .slice none 0 0] 24)
  replace xia := xia.on hb
  replace xib := xib.on hb
  replace xf := xf.on hb
  replace hB := hB.trans (hb.mono hB.size)
  clear hb
  obtain ⟨wg, hwg⟩ : ∃ W, W = (w21.alloc (.cells #[.bool false, .slice none 0 0] 24)) := ⟨_, rfl⟩
  rw [← hwg] at hB xia xib xf xc ⊢
  clear hwg
  refine (HI.out _ hB).mono ?_
  rintro e w22 ⟨rfl, hb⟩
  replace xia := xia.on hb
  replace xib := xib.on hb
  replace xf := xf.on hb
  replace xc := xc.on hb
  have hz22 := hb.size
  try simp at hz22
  replace hB := hB.trans (hb.mono hB.size)
  clear hb
  have pia0 := xia.cell 0
  have pia1 := xia.cell 1
  have pia2 := xia.cell 2
  have pia3 := xia.cell 3
  simp only [List.getElem?_toArray, List.getElem?_cons_zero, List.getElem?_cons_succ] at pia0 pia1 pia2 pia3
  have ltia := xia.lt
  have ltib := xib.lt
  have ltf := xf.lt
  have ltc := xc.lt
  go_wp2_with fail
  clear pia0 pia1 pia2 pia3 ltia ltib ltf ltc
  refine (HT.out _ hB).mono ?_
  rintro e w23 ⟨rfl, hb⟩
  replace xia := xia.on hb
  replace xib := xib.on hb
  replace xf := xf.on hb
  replace xc := xc.on hb
  have hz23 := hb.size
  try simp at hz23
  replace hB := hB.trans (hb.mono hB.size)
  clear hb
  have pia0 := xia.cell 0
  have pia1 := xia.cell 1
  have pia2 := xia.cell 2
  have pia3 := xia.cell 3
  have pib0 := xib.cell 0
  have pib1 := xib.cell 1
  have pib2 := xib.cell 2
  have pib3 := xib.cell 3
  have pf0 := xf.cell 0
  have pf1 := xf.cell 1
  have pc0 := xc.cell 0
  have pc1 := xc.cell 1
  simp only [List.getElem?_toArray, List.getElem?_cons_zero, List.getElem?_cons_succ] at pia0 pia1 pia2 pia3 pib0 pib1 pib2 pib3 pf0 pf1 pc0 pc1
  have ltia := xia.lt
  have ltib := xib.lt
  have ltf := xf.lt
  have ltc := xc.lt
  go_wp2_with fail
  clear pia0 pia1 pia2 pia3 pib0 pib1 pib2 pib3 pf0 pf1 pc0 pc1 ltia ltib ltf ltc
  refine (HP.out _ hB).mono ?_
  rintro e w24 ⟨rfl, hb⟩
  replace xia := xia.on hb
  replace xib := xib.on hb
  replace xf := xf.on hb
  replace xc := xc.on hb
  have hz24 := hb.size
  try simp at hz24
  replace hB := hB.trans (hb.mono hB.size)
  clear hb
  have pia0 := xia.cell 0
  have pia1 := xia.cell 1
  have pia2 := xia.cell 2
  have pia3 := xia.cell 3
  have pib0 := xib.cell 0
  have pib1 := xib.cell 1
  have pib2 := xib.cell 2
  have pib3 := xib.cell 3
  simp only [List.getElem?_toArray, List.getElem?_cons_zero, List.getElem?_cons_succ] at pia0 pia1 pia2 pia3 pib0 pib1 pib2 pib3
  have ltia := xia.lt
  have ltib := xib.lt
  have ltf := xf.lt
  have ltc := xc.lt
  go_wp2_with fail
  clear pia0 pia1 pia2 pia3 pib0 pib1 pib2 pib3 ltia ltib ltf ltc
  refine (HQ.out _ hB).mono ?_
  rintro e w25 ⟨rfl, hb⟩
  replace xia := xia.on hb
  replace xib := xib.on hb
  replace xf := xf.on hb
  replace xc := xc.on hb
  have hz25 := hb.size
  try simp at hz25
  replace hB := hB.trans (hb.mono hB.size)
  clear hb
  go_wp2
  go_ret
  exact ⟨rfl, hB⟩
set_option maxRecDepth 100000 in
set_option maxHeartbeats 4000000 in
theorem FracWrong_long (bia : Bool) (aia : Option Addr) (kia cia : Nat) (dia : Bool) (eia : Option Addr) (lia mia : Nat) (bib : Bool) (aib : Option Addr) (kib cib : Nat) (dib : Bool) (eib : Option Addr) (lib mib : Nat) (n md : Int) (w : World) (hsh : ((decide (kia ≤ 300) && decide (lia ≤ 300)) && (decide (kib ≤ 300) && decide (lib ≤ 300))) = false)  :
    Calls Tryz.prog 14 #[.agg #[.bool bia, .slice aia kia cia, .bool dia, .slice eia lia mia], .agg #[.bool bib, .slice aib kib cib, .bool dib, .slice eib lib mib], .int .i64 n, .int .u8 md] w fun e w' => e = .returned (.bool true) ∧ Below w.heap.size w w' := by
  have hB := Below.refl w.heap.size w
  obtain ⟨al, xia, hN⟩ := mk hB #[.bool bia, .slice aia kia cia, .bool dia, .slice eia lia mia] 26
  replace hB := hN
  clear al hN
  try simp only [World.size_alloc] at xia
  obtain ⟨al, xib, hN⟩ := mk hB #[.bool bib, .slice aib kib cib, .bool dib, .slice eib lib mib] 26
  replace xia := xia.on al
  replace hB := hN
  clear al hN
  try simp only [World.size_alloc] at xib
  go_enter Tryz.func14, Tryz.ntmps14
  go_wp2_with fail
  refine (law2_awake_any _).mono ?_
  rintro e w1 ⟨rfl, hb⟩
  replace xia := xia.on hb
  replace xib := xib.on hb
  have hz1 := hb.size
  try simp at hz1
  replace hB := hB.trans (hb.mono hB.size)
  clear hb
  have pia := xia.all4
  have pib := xib.all4
  have ltia := xia.lt
  have ltib := xib.lt
  go_wp2_with fail
  clear ltia
  clear ltib
  clear pia pib
  have hb := ((Below.refl w1.heap.size w1).alloc (Nat.le_refl _) (.cells #[.bool bia, .slice aia kia cia, .bool dia, .slice eia lia mia, .bool bib, .slice aib kib cib, .bool dib, .slice eib lib mib] 26))
  have xrow : Bk _ w1.heap.size #[.bool bia, .slice aia kia cia, .bool dia, .slice eia lia mia, .bool bib, .slice aib kib cib, .bool dib, .slice eib lib mib] 26 := (Bk.new w1 #[.bool bia, .slice aia kia cia, .bool dia, .slice eia lia mia, .bool bib, .slice aib kib cib, .bool dib, .slice eib lib mib] 26)
  replace xia := xia.on hb
  replace xib := xib.on hb
  replace hB := hB.trans (hb.mono hB.size)
  clear hb
  have rw0 := xrow.cell 0
  have rw1 := xrow.cell 1
  have rw2 := xrow.cell 2
  have rw3 := xrow.cell 3
  have rw4 := xrow.cell 4
  have rw5 := xrow.cell 5
  have rw6 := xrow.cell 6
  have rw7 := xrow.cell 7
  simp only [List.getElem?_toArray, List.getElem?_cons_zero, List.getElem?_cons_succ] at rw0 rw1 rw2 rw3 rw4 rw5 rw6 rw7
  refine (short2_any 300 w1.heap.size bia aia kia cia dia eia lia mia bib aib kib cib dib eib lib mib _ rw0 rw1 rw2 rw3 rw4 rw5 rw6 rw7).mono ?_
  rintro e w2 ⟨rfl, hb⟩
  clear xrow rw0 rw1 rw2 rw3 rw4 rw5 rw6 rw7
  replace xia := xia.on hb
  replace xib := xib.on hb
  replace hB := hB.trans (hb.mono hB.size)
  clear hb
  rw [hsh]
  clear hsh
  go_wp2
  go_ret
  exact ⟨rfl, hB⟩
set_option maxRecDepth 100000 in
set_option maxHeartbeats 4000000 in
theorem FracWrong_valid (bia : Bool) (aia : Option Addr) (kia cia : Nat) (dia : Bool) (eia : Option Addr) (lia mia : Nat) (bib : Bool) (aib : Option Addr) (kib cib : Nat) (dib : Bool) (eib : Option Addr) (lib mib : Nat) (n md : Int) (w : World) (hsh : ((decide (kia ≤ 300) && decide (lia ≤ 300)) && (decide (kib ≤ 300) && decide (lib ≤ 300))) = true) (hv : ∀ W, Below w.heap.size w W → Calls Tryz.prog 51 #[.agg #[.bool bia, .slice aia kia cia, .bool dia, .slice eia lia mia]] W fun e w' => e = .returned (.bool true) ∧ Below W.heap.size W w') :
    Calls Tryz.prog 14 #[.agg #[.bool bia, .slice aia kia cia, .bool dia, .slice eia lia mia], .agg #[.bool bib, .slice aib kib cib, .bool dib, .slice eib lib mib], .int .i64 n, .int .u8 md] w fun e w' => e = .returned (.bool true) ∧ Below w.heap.size w w' := by
  have HV := Lib.hid hv
  clear hv
  have hB := Below.refl w.heap.size w
  obtain ⟨al, xia, hN⟩ := mk hB #[.bool bia, .slice aia kia cia, .bool dia, .slice eia lia mia] 26
  replace hB := hN
  clear al hN
  try simp only [World.size_alloc] at xia
  obtain ⟨al, xib, hN⟩ := mk hB #[.bool bib, .slice aib kib cib, .bool dib, .slice eib lib mib] 26
  replace xia := xia.on al
  replace hB := hN
  clear al hN
  try simp only [World.size_alloc] at xib
  go_enter Tryz.func14, Tryz.ntmps14
  go_wp2_with fail
  refine (law2_awake_any _).mono ?_
  rintro e w1 ⟨rfl, hb⟩
  replace xia := xia.on hb
  replace xib := xib.on hb
  have hz1 := hb.size
  try simp at hz1
  replace hB := hB.trans (hb.mono hB.size)
  clear hb
  have pia := xia.all4
  have pib := xib.all4
  have ltia := xia.lt
  have ltib := xib.lt
  go_wp2_with fail
  clear ltia
  clear ltib
  clear pia pib
  have hb := ((Below.refl w1.heap.size w1).alloc (Nat.le_refl _) (.cells #[.bool bia, .slice aia kia cia, .bool dia, .slice eia lia mia, .bool bib, .slice aib kib cib, .bool dib, .slice eib lib mib] 26))
  have xrow : Bk _ w1.heap.size #[.bool bia, .slice aia kia cia, .bool dia, .slice eia lia mia, .bool bib, .slice aib kib cib, .bool dib, .slice eib lib mib] 26 := (Bk.new w1 #[.bool bia, .slice aia kia cia, .bool dia, .slice eia lia mia, .bool bib, .slice aib kib cib, .bool dib, .slice eib lib mib] 26)
  replace xia := xia.on hb
  replace xib := xib.on hb
  replace hB := hB.trans (hb.mono hB.size)
  clear hb
  have rw0 := xrow.cell 0
  have rw1 := xrow.cell 1
  have rw2 := xrow.cell 2
  have rw3 := xrow.cell 3
  have rw4 := xrow.cell 4
  have rw5 := xrow.cell 5
  have rw6 := xrow.cell 6
  have rw7 := xrow.cell 7
  simp only [List.getElem?_toArray, List.getElem?_cons_zero, List.getElem?_cons_succ] at rw0 rw1 rw2 rw3 rw4 rw5 rw6 rw7
  refine (short2_any 300 w1.heap.size bia aia kia cia dia eia lia mia bib aib kib cib dib eib lib mib _ rw0 rw1 rw2 rw3 rw4 rw5 rw6 rw7).mono ?_
  rintro e w2 ⟨rfl, hb⟩
  clear xrow rw0 rw1 rw2 rw3 rw4 rw5 rw6 rw7
  replace xia := xia.on hb
  replace xib := xib.on hb
  replace hB := hB.trans (hb.mono hB.size)
  clear hb
  rw [hsh]
  clear hsh
  have pia := xia.all4
  have pib := xib.all4
  have ltia := xia.lt
  have ltib := xib.lt
  go_wp2_with fail
  clear ltia
  clear ltib
  clear pia pib
  refine (HV.out _ hB).mono ?_
  rintro e w3 ⟨rfl, hb⟩
  replace xia := xia.on hb
  replace xib := xib.on hb
  have hz3 := hb.size
  try simp at hz3
  replace hB := hB.trans (hb.mono hB.size)
  clear hb
  go_wp2
  go_ret
  exact ⟨rfl, hB⟩
end Go.Proofs.YtnnnhjgmgomlpaaGreat
