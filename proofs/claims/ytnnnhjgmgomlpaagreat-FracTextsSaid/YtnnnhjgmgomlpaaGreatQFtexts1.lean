/- A part of the proofs about fractions. -/
import Derived.Test.YtnnnhjgmgomlpaaGreatQz1
import Derived.Test.YtnnnhjgmgomlpaaGreatQz2
import Derived.Test.YtnnnhjgmgomlpaaGreatQz3
import Derived.Test.YtnnnhjgmgomlpaaGreatQz4
import Derived.Test.YtnnnhjgmgomlpaaGreatQz5
import Derived.Test.YtnnnhjgmgomlpaaGreatQz6
import Derived.Test.YtnnnhjgmgomlpaaGreatQz7
import Derived.Test.YtnnnhjgmgomlpaaGreatQz8
import Derived.Test.YtnnnhjgmgomlpaaGreatQz9
import Derived.Test.YtnnnhjgmgomlpaaGreatQz10
import Derived.Test.YtnnnhjgmgomlpaaGreatQz11
import Derived.Test.YtnnnhjgmgomlpaaGreatQz12
import Derived.Test.YtnnnhjgmgomlpaaGreatQz13
import Derived.Test.YtnnnhjgmgomlpaaGreatQz14
import Derived.Test.YtnnnhjgmgomlpaaGreatQz15
import Derived.Test.YtnnnhjgmgomlpaaGreatQz16
import Derived.Test.YtnnnhjgmgomlpaaGreatQz17
import Derived.Test.YtnnnhjgmgomlpaaGreatQz18
import Derived.Test.YtnnnhjgmgomlpaaGreatQz19
import Derived.Test.YtnnnhjgmgomlpaaGreatQz20
import Derived.Test.YtnnnhjgmgomlpaaGreatQz21
import Derived.Test.YtnnnhjgmgomlpaaGreatQz22
import Derived.Test.YtnnnhjgmgomlpaaGreatQz23
import Derived.Test.YtnnnhjgmgomlpaaGreatQz24
import Derived.Test.YtnnnhjgmgomlpaaGreatQz25
import Derived.Test.YtnnnhjgmgomlpaaGreatQz26
import Derived.Test.YtnnnhjgmgomlpaaGreatQz27
import Derived.Test.YtnnnhjgmgomlpaaGreatQz28
import Derived.Test.YtnnnhjgmgomlpaaGreatQz29
import Derived.Test.YtnnnhjgmgomlpaaGreatQz30
import Derived.Test.YtnnnhjgmgomlpaaGreatQz31
import Derived.Test.YtnnnhjgmgomlpaaGreatRows
namespace Go.Proofs.YtnnnhjgmgomlpaaGreat
open Go.RowKit Wh
set_option maxRecDepth 100000 in
set_option maxHeartbeats 1000000 in
theorem frParse_nbad (s x y : ByteArray) (w : World)
    (hc : ∀ W, Below w.heap.size w W → Calls Tryz.prog 72 #[.string s, .string ⟨#[47]⟩] W fun e w' => e = .returned (.tuple #[.string x, .string y, .bool true]) ∧ Below W.heap.size W w')
    (hn : ∀ W, Below w.heap.size w W → Calls Tryz.prog 73 #[.string x] W fun e w' => e = .returned (.tuple #[.agg #[.bool false, .slice none 0 0], .int .i64 10]) ∧ Below W.heap.size W w')
    (hd : ∀ W, Below w.heap.size w W → Calls Tryz.prog 75 #[.string y] W fun e w' => (∃ b a k c n, e = .returned (.tuple #[.agg #[.bool b, .slice a k c], .int .i64 n])) ∧ Below W.heap.size W w') :
    Calls Tryz.prog 19 #[.string s] w fun e w' => e = .returned (.tuple #[zeroF, .int .i64 21]) ∧ Below w.heap.size w w' := by
  have HC := Lib.hid hc
  have HN := Lib.hid hn
  have HD := Lib.hid hd
  have H1 := Lib.hid (fun W => FromInt_any 1 (by decide) (by decide) W)
  clear hc hn hd
  have hB := Below.refl w.heap.size w
  obtain ⟨al, xr, hN⟩ := mk hB #[.bool false, .slice none 0 0, .bool false, .slice none 0 0] 26
  replace hB := hN
  clear al hN
  try simp only [World.size_alloc] at xr
  go_enter Tryz.func19, Tryz.ntmps19
  have pr := xr.all4
  go_wp2_with fail
  clear pr
  refine (HC.out _ hB).mono ?_
  rintro e w1 ⟨rfl, hb⟩
  replace xr := xr.on hb
  have hz1 := hb.size
  try simp at hz1
  replace hB := hB.trans (hb.mono hB.size)
  clear hb
  have pr := xr.all4
  go_wp2_with fail
  clear pr
  refine (HN.out _ hB).mono ?_
  rintro e w2 ⟨rfl, hb⟩
  replace xr := xr.on hb
  have hz2 := hb.size
  try simp at hz2
  replace hB := hB.trans (hb.mono hB.size)
  clear hb
  obtain ⟨al, xn, hN⟩ := mk hB #[.bool false, .slice none 0 0] 24
  replace xr := xr.on al
  replace hB := hN
  clear al hN
  try simp only [World.size_alloc] at xn
  have pr := xr.all4
  have pn := xn.all2
  go_wp2_with fail
  clear pr pn
  refine (H1.out _).mono ?_
  rintro e w3 ⟨⟨v3, rfl, g1⟩, hb⟩
  obtain ⟨b2, a2, k2, c2, rfl⟩ := g1.num.opened
  clear g1
  replace xr := xr.on hb
  replace xn := xn.on hb
  have hz3 := hb.size
  try simp at hz3
  replace hB := hB.trans (hb.mono hB.size)
  clear hb
  obtain ⟨al, xd, hN⟩ := mk hB #[.bool b2, .slice a2 k2 c2] 24
  replace xr := xr.on al
  replace xn := xn.on al
  replace hB := hN
  clear al hN
  try simp only [World.size_alloc] at xd
  have pr := xr.all4
  have pn := xn.all2
  have pd := xd.all2
  go_wp2_with fail
  clear pr pn pd
  refine (HD.out _ hB).mono ?_
  rintro e w4 ⟨⟨b3, a3, k3, c3, nE, rfl⟩, hb⟩
  replace xr := xr.on hb
  replace xn := xn.on hb
  replace xd := xd.on hb
  have hz4 := hb.size
  try simp at hz4
  replace hB := hB.trans (hb.mono hB.size)
  clear hb
  have pr := xr.all4
  have pn := xn.all2
  have pd := xd.all2
  have hne : w3.heap.size ≠ w2.heap.size := by omega
  have hne2 : w3.heap.size ≠ w.heap.size := by omega
  go_wp2_with fail
  clear pr pn pd
  replace xr := xr.put_other w3.heap.size 0 (.bool b3) (by omega)
  replace xn := xn.put_other w3.heap.size 0 (.bool b3) (by omega)
  replace xd : Bk _ w3.heap.size #[.bool b3, .slice a2 k2 c2] _ := xd.put 0 (.bool b3)
  replace hB := hB.setCell (p := ⟨w3.heap.size, 0, none⟩) (by first | omega | (simp; omega) | simp) (.bool b3)
  replace xr := xr.put_other w3.heap.size 1 (.slice a3 k3 c3) (by omega)
  replace xn := xn.put_other w3.heap.size 1 (.slice a3 k3 c3) (by omega)
  replace xd : Bk _ w3.heap.size #[.bool b3, .slice a3 k3 c3] _ := xd.put 1 (.slice a3 k3 c3)
  replace hB := hB.setCell (p := ⟨w3.heap.size, 1, none⟩) (by first | omega | (simp; omega) | simp) (.slice a3 k3 c3)
  clear xn xd
  replace xr := xr.put4 (.bool false) (.slice none 0 0) (.bool false) (.slice none 0 0)
  replace hB := below4 hB w.heap.size (by first | omega | (simp; omega) | simp) (.bool false) (.slice none 0 0) (.bool false) (.slice none 0 0)
  generalize ((((((w4.setCell ⟨w3.heap.size, 0, none⟩ (.bool b3)).setCell ⟨w3.heap.size, 1, none⟩ (.slice a3 k3 c3)).setCell ⟨w.heap.size, 0, none⟩ (.bool false)).setCell ⟨w.heap.size, 1, none⟩ (.slice none 0 0)).setCell ⟨w.heap.size, 2, none⟩ (.bool false)).setCell ⟨w.heap.size, 3, none⟩ (.slice none 0 0)) = WF at *
  have pr := xr.all4
  exact bodyPost_ret (v := .tuple #[.agg #[.bool false, .slice none 0 0, .bool false, .slice none 0 0], .int .i64 21]) (by simp [results, Tryz.results19, go_sem, pr]) rfl ⟨rfl, hB⟩
set_option maxRecDepth 100000 in
set_option maxHeartbeats 1000000 in
theorem frParse_dbad (s x y : ByteArray) (zn : Int) (w : World)
    (hc : ∀ W, Below w.heap.size w W → Calls Tryz.prog 72 #[.string s, .string ⟨#[47]⟩] W fun e w' => e = .returned (.tuple #[.string x, .string y, .bool true]) ∧ Below W.heap.size W w')
    (hn : ∀ W, Below w.heap.size w W → Calls Tryz.prog 73 #[.string x] W fun e w' => (∃ v, e = .returned (.tuple #[v, .int .i64 0]) ∧ Num w' v zn) ∧ Below W.heap.size W w')
    (hd : ∀ W, Below w.heap.size w W → Calls Tryz.prog 75 #[.string y] W fun e w' => e = .returned (.tuple #[.agg #[.bool false, .slice none 0 0], .int .i64 10]) ∧ Below W.heap.size W w') :
    Calls Tryz.prog 19 #[.string s] w fun e w' => e = .returned (.tuple #[zeroF, .int .i64 21]) ∧ Below w.heap.size w w' := by
  have HC := Lib.hid hc
  have HN := Lib.hid hn
  have HD := Lib.hid hd
  have H1 := Lib.hid (fun W => FromInt_any 1 (by decide) (by decide) W)
  clear hc hn hd
  have hB := Below.refl w.heap.size w
  obtain ⟨al, xr, hN⟩ := mk hB #[.bool false, .slice none 0 0, .bool false, .slice none 0 0] 26
  replace hB := hN
  clear al hN
  try simp only [World.size_alloc] at xr
  go_enter Tryz.func19, Tryz.ntmps19
  have pr := xr.all4
  go_wp2_with fail
  clear pr
  refine (HC.out _ hB).mono ?_
  rintro e w1 ⟨rfl, hb⟩
  replace xr := xr.on hb
  have hz1 := hb.size
  try simp at hz1
  replace hB := hB.trans (hb.mono hB.size)
  clear hb
  have pr := xr.all4
  go_wp2_with fail
  clear pr
  refine (HN.out _ hB).mono ?_
  rintro e w2 ⟨⟨v, rfl, gn⟩, hb⟩
  obtain ⟨b1, a1, k1, c1, rfl⟩ := gn.opened
  replace xr := xr.on hb
  have hz2 := hb.size
  try simp at hz2
  replace hB := hB.trans (hb.mono hB.size)
  clear hb
  obtain ⟨al, xn, hN⟩ := mk hB #[.bool b1, .slice a1 k1 c1] 24
  replace xr := xr.on al
  replace gn := gn.on al
  replace hB := hN
  clear al hN
  try simp only [World.size_alloc] at xn
  have pr := xr.all4
  have pn := xn.all2
  go_wp2_with fail
  clear pr pn
  refine (H1.out _).mono ?_
  rintro e w3 ⟨⟨v3, rfl, g1⟩, hb⟩
  obtain ⟨b2, a2, k2, c2, rfl⟩ := g1.num.opened
  clear g1
  replace xr := xr.on hb
  replace xn := xn.on hb
  replace gn := gn.on hb
  have hz3 := hb.size
  try simp at hz3
  replace hB := hB.trans (hb.mono hB.size)
  clear hb
  obtain ⟨al, xd, hN⟩ := mk hB #[.bool b2, .slice a2 k2 c2] 24
  replace xr := xr.on al
  replace xn := xn.on al
  replace gn := gn.on al
  replace hB := hN
  clear al hN
  try simp only [World.size_alloc] at xd
  have pr := xr.all4
  have pn := xn.all2
  have pd := xd.all2
  go_wp2_with fail
  clear pr pn pd
  refine (HD.out _ hB).mono ?_
  rintro e w4 ⟨rfl, hb⟩
  replace xr := xr.on hb
  replace xn := xn.on hb
  replace xd := xd.on hb
  replace gn := gn.on hb
  have hz4 := hb.size
  try simp at hz4
  replace hB := hB.trans (hb.mono hB.size)
  clear hb
  have pr := xr.all4
  have pn := xn.all2
  have pd := xd.all2
  have hne : w3.heap.size ≠ w2.heap.size := by omega
  have hne2 : w3.heap.size ≠ w.heap.size := by omega
  go_wp2_with fail
  clear pr pn pd
  replace gn := gn.setB xd rfl 0 (.bool false)
  replace xr := xr.put_other w3.heap.size 0 (.bool false) (by omega)
  replace xn := xn.put_other w3.heap.size 0 (.bool false) (by omega)
  replace xd : Bk _ w3.heap.size #[.bool false, .slice a2 k2 c2] _ := xd.put 0 (.bool false)
  replace hB := hB.setCell (p := ⟨w3.heap.size, 0, none⟩) (by first | omega | (simp; omega) | simp) (.bool false)
  replace gn := gn.setB xd rfl 1 (.slice none 0 0)
  replace xr := xr.put_other w3.heap.size 1 (.slice none 0 0) (by omega)
  replace xn := xn.put_other w3.heap.size 1 (.slice none 0 0) (by omega)
  replace xd : Bk _ w3.heap.size #[.bool false, .slice none 0 0] _ := xd.put 1 (.slice none 0 0)
  replace hB := hB.setCell (p := ⟨w3.heap.size, 1, none⟩) (by first | omega | (simp; omega) | simp) (.slice none 0 0)
  clear gn
  clear xn xd
  replace xr := xr.put4 (.bool false) (.slice none 0 0) (.bool false) (.slice none 0 0)
  replace hB := below4 hB w.heap.size (by first | omega | (simp; omega) | simp) (.bool false) (.slice none 0 0) (.bool false) (.slice none 0 0)
  generalize ((((((w4.setCell ⟨w3.heap.size, 0, none⟩ (.bool false)).setCell ⟨w3.heap.size, 1, none⟩ (.slice none 0 0)).setCell ⟨w.heap.size, 0, none⟩ (.bool false)).setCell ⟨w.heap.size, 1, none⟩ (.slice none 0 0)).setCell ⟨w.heap.size, 2, none⟩ (.bool false)).setCell ⟨w.heap.size, 3, none⟩ (.slice none 0 0)) = WF at *
  have pr := xr.all4
  exact bodyPost_ret (v := .tuple #[.agg #[.bool false, .slice none 0 0, .bool false, .slice none 0 0], .int .i64 21]) (by simp [results, Tryz.results19, go_sem, pr]) rfl ⟨rfl, hB⟩
set_option maxRecDepth 100000 in
set_option maxHeartbeats 1000000 in
theorem frParse_onebad (s x y : ByteArray) (w : World)
    (hc : ∀ W, Below w.heap.size w W → Calls Tryz.prog 72 #[.string s, .string ⟨#[47]⟩] W fun e w' => e = .returned (.tuple #[.string x, .string y, .bool false]) ∧ Below W.heap.size W w')
    (hn : ∀ W, Below w.heap.size w W → Calls Tryz.prog 73 #[.string x] W fun e w' => e = .returned (.tuple #[.agg #[.bool false, .slice none 0 0], .int .i64 10]) ∧ Below W.heap.size W w') :
    Calls Tryz.prog 19 #[.string s] w fun e w' => e = .returned (.tuple #[zeroF, .int .i64 21]) ∧ Below w.heap.size w w' := by
  have HC := Lib.hid hc
  have HN := Lib.hid hn
  have H1 := Lib.hid (fun W => FromInt_any 1 (by decide) (by decide) W)
  clear hc hn
  have hB := Below.refl w.heap.size w
  obtain ⟨al, xr, hN⟩ := mk hB #[.bool false, .slice none 0 0, .bool false, .slice none 0 0] 26
  replace hB := hN
  clear al hN
  try simp only [World.size_alloc] at xr
  go_enter Tryz.func19, Tryz.ntmps19
  have pr := xr.all4
  go_wp2_with fail
  clear pr
  refine (HC.out _ hB).mono ?_
  rintro e w1 ⟨rfl, hb⟩
  replace xr := xr.on hb
  have hz1 := hb.size
  try simp at hz1
  replace hB := hB.trans (hb.mono hB.size)
  clear hb
  have pr := xr.all4
  go_wp2_with fail
  clear pr
  refine (HN.out _ hB).mono ?_
  rintro e w2 ⟨rfl, hb⟩
  replace xr := xr.on hb
  have hz2 := hb.size
  try simp at hz2
  replace hB := hB.trans (hb.mono hB.size)
  clear hb
  obtain ⟨al, xn, hN⟩ := mk hB #[.bool false, .slice none 0 0] 24
  replace xr := xr.on al
  replace hB := hN
  clear al hN
  try simp only [World.size_alloc] at xn
  have pr := xr.all4
  have pn := xn.all2
  go_wp2_with fail
  clear pr pn
  refine (H1.out _).mono ?_
  rintro e w3 ⟨⟨v3, rfl, g1⟩, hb⟩
  obtain ⟨b2, a2, k2, c2, rfl⟩ := g1.num.opened
  clear g1
  replace xr := xr.on hb
  replace xn := xn.on hb
  have hz3 := hb.size
  try simp at hz3
  replace hB := hB.trans (hb.mono hB.size)
  clear hb
  obtain ⟨al, xd, hN⟩ := mk hB #[.bool b2, .slice a2 k2 c2] 24
  replace xr := xr.on al
  replace xn := xn.on al
  replace hB := hN
  clear al hN
  try simp only [World.size_alloc] at xd
  have pr := xr.all4
  have pn := xn.all2
  have pd := xd.all2
  go_wp2_with fail
  clear pr pn pd
  clear xn xd
  replace xr := xr.put4 (.bool false) (.slice none 0 0) (.bool false) (.slice none 0 0)
  replace hB := below4 hB w.heap.size (by first | omega | (simp; omega) | simp) (.bool false) (.slice none 0 0) (.bool false) (.slice none 0 0)
  generalize (((((w3.alloc (.cells #[.bool b2, .slice a2 k2 c2] 24)).setCell ⟨w.heap.size, 0, none⟩ (.bool false)).setCell ⟨w.heap.size, 1, none⟩ (.slice none 0 0)).setCell ⟨w.heap.size, 2, none⟩ (.bool false)).setCell ⟨w.heap.size, 3, none⟩ (.slice none 0 0)) = WF at *
  have pr := xr.all4
  exact bodyPost_ret (v := .tuple #[.agg #[.bool false, .slice none 0 0, .bool false, .slice none 0 0], .int .i64 21]) (by simp [results, Tryz.results19, go_sem, pr]) rfl ⟨rfl, hB⟩
set_option maxRecDepth 100000 in
set_option maxHeartbeats 1000000 in
theorem frParse_oneok (s x y : ByteArray) (zn : Int) (s1 : Sz 256 zn) (hv : fvld (decide (zn < 0)) (dig zn.natAbs) (decide ((1 : Int) < 0)) (dig (1 : Int).natAbs) = true) (w : World)
    (hc : ∀ W, Below w.heap.size w W → Calls Tryz.prog 72 #[.string s, .string ⟨#[47]⟩] W fun e w' => e = .returned (.tuple #[.string x, .string y, .bool false]) ∧ Below W.heap.size W w')
    (hn : ∀ W, Below w.heap.size w W → Calls Tryz.prog 73 #[.string x] W fun e w' => (∃ v, e = .returned (.tuple #[v, .int .i64 0]) ∧ Num w' v zn) ∧ Below W.heap.size W w') :
    Calls Tryz.prog 19 #[.string s] w fun e w' => (∃ b1 a1 k1 c1 b3 a3 k3 c3, e = .returned (.tuple #[.agg #[.bool b1, .slice a1 k1 c1, .bool b3, .slice a3 k3 c3], .int .i64 0]) ∧ Num w' (.agg #[.bool b1, .slice a1 k1 c1]) zn ∧ Num w' (.agg #[.bool b3, .slice a3 k3 c3]) 1) ∧ Below w.heap.size w w' := by
  have HC := Lib.hid hc
  have HN := Lib.hid hn
  have s2 : Sz 256 1 := (Sz.small (z := 1) (by decide)).mono (by decide)
  have t1 := fun v W (h : Num W v zn) => tooLong_num v zn W h
  rw [show decide (256 < (dig zn.natAbs).length) = false from decide_eq_false (Nat.not_lt.2 s1)] at t1
  have HT1 := Lib.hid t1
  have t2 := fun v W (h : Num W v 1) => tooLong_num v 1 W h
  rw [show decide (256 < (dig (1 : Int).natAbs).length) = false from decide_eq_false (Nat.not_lt.2 s2)] at t2
  have HT2 := Lib.hid t2
  have hvl := fun bn an kn cn bd ad kd cd W (h : Num W (.agg #[.bool bn, .slice an kn cn]) zn) (g : Num W (.agg #[.bool bd, .slice ad kd cd]) 1) => (show Calls Tryz.prog 51 #[.agg #[.bool bn, .slice an kn cn, .bool bd, .slice ad kd cd]] W fun e w' => e = .returned (.bool true) ∧ Below W.heap.size W w' from by have := frValid_raw bn an kn cn _ bd ad kd cd _ W (lim_of_num h).2 (dig_Lm _) (lim_of_num g).2 (dig_Lm _); rw [(lim_of_num h).1, (lim_of_num g).1, hv] at this; rw [(lim_of_num h).1, (lim_of_num g).1]; exact this)
  have HV := Lib.hid hvl
  clear t1 t2 hvl hv s1 s2
  have H1 := Lib.hid (fun W => FromInt_any 1 (by decide) (by decide) W)
  clear hc hn
  have hB := Below.refl w.heap.size w
  obtain ⟨al, xr, hN⟩ := mk hB #[.bool false, .slice none 0 0, .bool false, .slice none 0 0] 26
  replace hB := hN
  clear al hN
  try simp only [World.size_alloc] at xr
  go_enter Tryz.func19, Tryz.ntmps19
  have pr := xr.all4
  go_wp2_with fail
  clear pr
  refine (HC.out _ hB).mono ?_
  rintro e w1 ⟨rfl, hb⟩
  replace xr := xr.on hb
  have hz1 := hb.size
  try simp at hz1
  replace hB := hB.trans (hb.mono hB.size)
  clear hb
  have pr := xr.all4
  go_wp2_with fail
  clear pr
  refine (HN.out _ hB).mono ?_
  rintro e w2 ⟨⟨v, rfl, gn⟩, hb⟩
  obtain ⟨b1, a1, k1, c1, rfl⟩ := gn.opened
  replace xr := xr.on hb
  have hz2 := hb.size
  try simp at hz2
  replace hB := hB.trans (hb.mono hB.size)
  clear hb
  obtain ⟨al, xn, hN⟩ := mk hB #[.bool b1, .slice a1 k1 c1] 24
  replace xr := xr.on al
  replace gn := gn.on al
  replace hB := hN
  clear al hN
  try simp only [World.size_alloc] at xn
  have pr := xr.all4
  have pn := xn.all2
  go_wp2_with fail
  clear pr pn
  refine (H1.out _).mono ?_
  rintro e w3 ⟨⟨v3, rfl, g1⟩, hb⟩
  obtain ⟨b2, a2, k2, c2, rfl⟩ := g1.num.opened
  have gd := g1.num
  clear g1
  replace xr := xr.on hb
  replace xn := xn.on hb
  replace gn := gn.on hb
  have hz3 := hb.size
  try simp at hz3
  replace hB := hB.trans (hb.mono hB.size)
  clear hb
  obtain ⟨al, xd, hN⟩ := mk hB #[.bool b2, .slice a2 k2 c2] 24
  replace xr := xr.on al
  replace xn := xn.on al
  replace gn := gn.on al
  replace gd := gd.on al
  replace hB := hN
  clear al hN
  try simp only [World.size_alloc] at xd
  have pr := xr.all4
  have pn := xn.all2
  have pd := xd.all2
  go_wp2_with fail
  clear pr pn pd
  refine (HT1.out _ _ gn).mono ?_
  rintro e w4 ⟨rfl, hb⟩
  replace xr := xr.on hb
  replace xn := xn.on hb
  replace xd := xd.on hb
  replace gn := gn.on hb
  replace gd := gd.on hb
  have hz4 := hb.size
  try simp at hz4
  replace hB := hB.trans (hb.mono hB.size)
  clear hb
  have pr := xr.all4
  have pn := xn.all2
  have pd := xd.all2
  go_wp2_with fail
  clear pr pn pd
  refine (HT2.out _ _ gd).mono ?_
  rintro e w5 ⟨rfl, hb⟩
  replace xr := xr.on hb
  replace xn := xn.on hb
  replace xd := xd.on hb
  replace gn := gn.on hb
  replace gd := gd.on hb
  have hz5 := hb.size
  try simp at hz5
  replace hB := hB.trans (hb.mono hB.size)
  clear hb
  have pr := xr.all4
  have pn := xn.all2
  have pd := xd.all2
  go_wp2_with fail
  clear pr pn pd
  obtain ⟨al, xa, hN⟩ := mk hB #[.bool b1, .slice a1 k1 c1, .bool b2, .slice a2 k2 c2] 26
  replace xr := xr.on al
  replace xn := xn.on al
  replace xd := xd.on al
  replace gn := gn.on al
  replace gd := gd.on al
  replace hB := hN
  clear al hN
  try simp only [World.size_alloc] at xa
  refine (HV.out _ _ _ _ _ _ _ _ _ gn gd).mono ?_
  rintro e w6 ⟨rfl, hb⟩
  replace xr := xr.on hb
  replace xn := xn.on hb
  replace xd := xd.on hb
  replace xa := xa.on hb
  replace gn := gn.on hb
  replace gd := gd.on hb
  have hz6 := hb.size
  try simp at hz6
  replace hB := hB.trans (hb.mono hB.size)
  clear hb
  clear xn xd
  have pr := xr.all4
  have pa := xa.all4
  go_wp2_with fail
  clear pr pa
  clear xa
  replace gn := gn.setB4 xr rfl (.bool b1) (.slice a1 k1 c1) (.bool b2) (.slice a2 k2 c2) rfl
  replace gd := gd.setB4 xr rfl (.bool b1) (.slice a1 k1 c1) (.bool b2) (.slice a2 k2 c2) rfl
  replace xr := xr.put4 (.bool b1) (.slice a1 k1 c1) (.bool b2) (.slice a2 k2 c2)
  replace hB := below4 hB w.heap.size (by first | omega | (simp; omega) | simp) (.bool b1) (.slice a1 k1 c1) (.bool b2) (.slice a2 k2 c2)
  generalize ((((w6.setCell ⟨w.heap.size, 0, none⟩ (.bool b1)).setCell ⟨w.heap.size, 1, none⟩ (.slice a1 k1 c1)).setCell ⟨w.heap.size, 2, none⟩ (.bool b2)).setCell ⟨w.heap.size, 3, none⟩ (.slice a2 k2 c2)) = WF at *
  have pr := xr.all4
  exact bodyPost_ret (v := .tuple #[.agg #[.bool b1, .slice a1 k1 c1, .bool b2, .slice a2 k2 c2], .int .i64 0]) (by simp [results, Tryz.results19, go_sem, pr]) rfl ⟨⟨_, _, _, _, _, _, _, _, rfl, gn, gd⟩, hB⟩
end Go.Proofs.YtnnnhjgmgomlpaaGreat
namespace Go.Proofs.YtnnnhjgmgomlpaaGreat
open Go.RowKit Wh
theorem txt_most {z : Int} (h : Sz 256 z) : (txt z).length ≤ 5122 := by
  by_cases h0 : z = 0
  · subst h0; show 1 ≤ 5122; omega
  · have h1 := Wt.pow_le_of_length (n := z.natAbs) (k := (Wt.dig z.natAbs).length - 1) (by have : Wt.dig z.natAbs ≠ [] := fun e => h0 (by have := (Wt.dig_nil_iff _).1 e; omega); have := List.length_pos_iff.2 this; omega)
    have h2 := Wt.len_of_limbs h1 (lt_pow_length z.natAbs)
    have h3 := h.len2
    have h4 : (txt z).length ≤ (Wt.dig z.natAbs).length + 1 := by
      unfold txt
      rw [if_neg h0]
      split <;> simp
    omega
set_option maxRecDepth 100000 in
set_option maxHeartbeats 1000000 in
theorem frText_one (b : Bool) (a : Option Addr) (k c : Nat) (b' : Bool) (a' : Option Addr) (k' c' : Nat) (q : Rat) (hq : Fz 256 256 q) (hd : q.den = 1) (w : World) (h : Fra w (.agg #[.bool b, .slice a k c, .bool b', .slice a' k' c']) q) :
    Calls Tryz.prog 60 #[.agg #[.bool b, .slice a k c, .bool b', .slice a' k' c']] w fun e w' => e = .returned (.tuple #[.string ⟨(txt q.num).toArray⟩, .int .i64 0]) ∧ Below w.heap.size w w' := by
  have HV := Lib.hid (fun W (hW : Below w.heap.size w W) => valid_ok (.agg #[.bool b, .slice a k c, .bool b', .slice a' k' c']) q hq W (h.below hW (Nat.le_refl _)))
  obtain ⟨eb, eb', n1, n2⟩ := fra_nums h
  obtain ⟨h1, h2⟩ := hq
  have ho := fun W (hW : Below w.heap.size w W) => isOne_num _ (q.den : Int) W (n2.below hW (Nat.le_refl _))
  rw [show decide ((q.den : Int) = 1) = true from decide_eq_true (by omega)] at ho
  have HO := Lib.hid ho
  have t1 := fun W (hW : Below w.heap.size w W) => Text_any _ q.num (h1.len (by decide)) W (n1.below hW (Nat.le_refl _))
  have l1 := txt_most h1
  have l2 := txt_most h2
  obtain ⟨s, hs⟩ : ∃ s : ByteArray, s = ⟨(txt q.num).toArray⟩ := ⟨_, rfl⟩
  have z1 : s.size ≤ 5122 := by rw [hs]; show (txt q.num).toArray.size ≤ 5122; rw [List.size_toArray]; exact l1
  rw [← hs] at t1 ⊢
  have HT1 := Lib.hid t1
  clear h n1 n2 eb eb' ho t1 hs h1 h2 l1 l2 hd
  have hB := Below.refl w.heap.size w
  obtain ⟨al, xa, hN⟩ := mk hB #[.bool b, .slice a k c, .bool b', .slice a' k' c'] 26
  replace hB := hN
  clear al hN
  try simp only [World.size_alloc] at xa
  go_enter Tryz.func60, Tryz.ntmps60
  obtain ⟨al, xx, hN⟩ := mk hB #[.bool b, .slice a k c, .bool b', .slice a' k' c'] 85
  replace xa := xa.on al
  replace hB := hN
  clear al hN
  try simp only [World.size_alloc] at xx
  have pa := xa.all4
  have px := xx.all4
  go_wp2_with fail
  clear pa px
  refine (HV.out _ hB).mono ?_
  rintro e w1 ⟨rfl, hb⟩
  replace xa := xa.on hb
  replace xx := xx.on hb
  have hz1 := hb.size
  try simp at hz1
  replace hB := hB.trans (hb.mono hB.size)
  clear hb
  clear xa
  have px := xx.all4
  go_wp2_with fail
  clear px
  refine (HT1.out _ hB).mono ?_
  rintro e w2 ⟨rfl, hb⟩
  replace xx := xx.on hb
  have hz2 := hb.size
  try simp at hz2
  replace hB := hB.trans (hb.mono hB.size)
  clear hb
  have px := xx.all4
  go_wp2_with fail
  clear px
  refine (HO.out _ hB).mono ?_
  rintro e w3 ⟨rfl, hb⟩
  replace xx := xx.on hb
  have hz3 := hb.size
  try simp at hz3
  replace hB := hB.trans (hb.mono hB.size)
  clear hb
  have px := xx.all4
  have HB := Lib.hid hB
  clear hB
  go_wp2
  exact bodyPost_ret (v := .tuple #[.string s, .int .i64 0]) (by simp [results, Tryz.results60, go_sem]) rfl ⟨rfl, HB.out⟩
set_option maxRecDepth 100000 in
set_option maxHeartbeats 1000000 in
theorem frText_more (b : Bool) (a : Option Addr) (k c : Nat) (b' : Bool) (a' : Option Addr) (k' c' : Nat) (q : Rat) (hq : Fz 256 256 q) (hd : q.den ≠ 1) (w : World) (h : Fra w (.agg #[.bool b, .slice a k c, .bool b', .slice a' k' c']) q) :
    Calls Tryz.prog 60 #[.agg #[.bool b, .slice a k c, .bool b', .slice a' k' c']] w fun e w' => e = .returned (.tuple #[.string (⟨(txt q.num).toArray⟩ ++ ⟨#[47]⟩ ++ ⟨(txt (q.den : Int)).toArray⟩), .int .i64 0]) ∧ Below w.heap.size w w' := by
  have HV := Lib.hid (fun W (hW : Below w.heap.size w W) => valid_ok (.agg #[.bool b, .slice a k c, .bool b', .slice a' k' c']) q hq W (h.below hW (Nat.le_refl _)))
  obtain ⟨eb, eb', n1, n2⟩ := fra_nums h
  obtain ⟨h1, h2⟩ := hq
  have ho := fun W (hW : Below w.heap.size w W) => isOne_num _ (q.den : Int) W (n2.below hW (Nat.le_refl _))
  rw [show decide ((q.den : Int) = 1) = false from decide_eq_false (by omega)] at ho
  have HO := Lib.hid ho
  have t1 := fun W (hW : Below w.heap.size w W) => Text_any _ q.num (h1.len (by decide)) W (n1.below hW (Nat.le_refl _))
  have l1 := txt_most h1
  have l2 := txt_most h2
  obtain ⟨s, hs⟩ : ∃ s : ByteArray, s = ⟨(txt q.num).toArray⟩ := ⟨_, rfl⟩
  have z1 : s.size ≤ 5122 := by rw [hs]; show (txt q.num).toArray.size ≤ 5122; rw [List.size_toArray]; exact l1
  rw [← hs] at t1 ⊢
  have t2 := fun W (hW : Below w.heap.size w W) => Text_any _ (q.den : Int) (h2.len (by decide)) W (n2.below hW (Nat.le_refl _))
  obtain ⟨t, ht⟩ : ∃ t : ByteArray, t = ⟨(txt (q.den : Int)).toArray⟩ := ⟨_, rfl⟩
  have z2 : t.size ≤ 5122 := by rw [ht]; show (txt (q.den : Int)).toArray.size ≤ 5122; rw [List.size_toArray]; exact l2
  rw [← ht] at t2 ⊢
  have z3 : (⟨#[47]⟩ : ByteArray).size = 1 := rfl
  have HT2 := Lib.hid t2
  clear t2 ht
  have HT1 := Lib.hid t1
  clear h n1 n2 eb eb' ho t1 hs h1 h2 l1 l2 hd
  have hB := Below.refl w.heap.size w
  obtain ⟨al, xa, hN⟩ := mk hB #[.bool b, .slice a k c, .bool b', .slice a' k' c'] 26
  replace hB := hN
  clear al hN
  try simp only [World.size_alloc] at xa
  go_enter Tryz.func60, Tryz.ntmps60
  obtain ⟨al, xx, hN⟩ := mk hB #[.bool b, .slice a k c, .bool b', .slice a' k' c'] 85
  replace xa := xa.on al
  replace hB := hN
  clear al hN
  try simp only [World.size_alloc] at xx
  have pa := xa.all4
  have px := xx.all4
  go_wp2_with fail
  clear pa px
  refine (HV.out _ hB).mono ?_
  rintro e w1 ⟨rfl, hb⟩
  replace xa := xa.on hb
  replace xx := xx.on hb
  have hz1 := hb.size
  try simp at hz1
  replace hB := hB.trans (hb.mono hB.size)
  clear hb
  clear xa
  have px := xx.all4
  go_wp2_with fail
  clear px
  refine (HT1.out _ hB).mono ?_
  rintro e w2 ⟨rfl, hb⟩
  replace xx := xx.on hb
  have hz2 := hb.size
  try simp at hz2
  replace hB := hB.trans (hb.mono hB.size)
  clear hb
  have px := xx.all4
  go_wp2_with fail
  clear px
  refine (HO.out _ hB).mono ?_
  rintro e w3 ⟨rfl, hb⟩
  replace xx := xx.on hb
  have hz3 := hb.size
  try simp at hz3
  replace hB := hB.trans (hb.mono hB.size)
  clear hb
  have px := xx.all4
  go_wp2_with fail
  clear px
  refine (HT2.out _ hB).mono ?_
  rintro e w4 ⟨rfl, hb⟩
  replace xx := xx.on hb
  have hz4 := hb.size
  try simp at hz4
  replace hB := hB.trans (hb.mono hB.size)
  clear hb
  have px := xx.all4
  have HB := Lib.hid hB
  clear hB
  go_wp2
  exact bodyPost_ret (v := .tuple #[.string (s ++ ⟨#[47]⟩ ++ t), .int .i64 0]) (by simp [results, Tryz.results60, go_sem]) rfl ⟨rfl, HB.out⟩
end Go.Proofs.YtnnnhjgmgomlpaaGreat
