/- 'FracTexts' returns true for every fraction, valid or not, and every text: Parse inverts Text, the text of a whole number is that of its numerator and otherwise the texts of both parts with a slash between, and a text of at most 400 bytes that is parsed is the text of the result (at most 40 limbs in each part). No condition. -/
import Derived.ProofKit
import Derived.WalkKit
import Derived.Test.YtnnnhjgmgomlpaaGreatQz1
import Derived.Test.YtnnnhjgmgomlpaaGreatQz2
import Derived.Test.YtnnnhjgmgomlpaaGreatQz3
import Derived.Test.YtnnnhjgmgomlpaaGreatQz4
import Derived.Test.YtnnnhjgmgomlpaaGreatQz5
import Derived.Test.YtnnnhjgmgomlpaaGreatQz6
import Derived.Test.YtnnnhjgmgomlpaaGreatQz7
import Derived.Test.YtnnnhjgmgomlpaaGreatQz8
import Derived.Test.YtnnnhjgmgomlpaaGreatQz9
import Derived.Test.YtnnnhjgmgomlpaaGreatQz10
import Derived.Test.YtnnnhjgmgomlpaaGreatQz11
import Derived.Test.YtnnnhjgmgomlpaaGreatQz12
import Derived.Test.YtnnnhjgmgomlpaaGreatQz13
import Derived.Test.YtnnnhjgmgomlpaaGreatQz14
import Derived.Test.YtnnnhjgmgomlpaaGreatQz15
import Derived.Test.YtnnnhjgmgomlpaaGreatQz16
import Derived.Test.YtnnnhjgmgomlpaaGreatQz17
import Derived.Test.YtnnnhjgmgomlpaaGreatQz18
import Derived.Test.YtnnnhjgmgomlpaaGreatQz19
import Derived.Test.YtnnnhjgmgomlpaaGreatQz20
import Derived.Test.YtnnnhjgmgomlpaaGreatQz21
import Derived.Test.YtnnnhjgmgomlpaaGreatQz22
import Derived.Test.YtnnnhjgmgomlpaaGreatQz23
import Derived.Test.YtnnnhjgmgomlpaaGreatQz24
import Derived.Test.YtnnnhjgmgomlpaaGreatQz25
import Derived.Test.YtnnnhjgmgomlpaaGreatQz26
import Derived.Test.YtnnnhjgmgomlpaaGreatQz27
import Derived.Test.YtnnnhjgmgomlpaaGreatQz28
import Derived.Test.YtnnnhjgmgomlpaaGreatQz29
import Derived.Test.YtnnnhjgmgomlpaaGreatQz30
import Derived.Test.YtnnnhjgmgomlpaaGreatQz31
import Derived.Test.YtnnnhjgmgomlpaaGreatRows
import Derived.Test.YtnnnhjgmgomlpaaGreatQFtexts1
import Derived.Test.YtnnnhjgmgomlpaaGreatQFtexts2
namespace Go.Proofs.YtnnnhjgmgomlpaaGreat
open Go.RowKit Wh
theorem ref2Same_zero (w : World) : Calls Tryz.prog 22 #[.agg #[.bool false, .slice none 0 0, .bool false, .slice none 0 0], .agg #[.bool false, .slice none 0 0, .bool false, .slice none 0 0]] w fun e w' => e = .returned (.bool true) ∧ Below w.heap.size w w' :=
  ref2Same_raw false none 0 0 false none 0 0 false none 0 0 false none 0 0 [] [] [] [] w (Lim.nil w) (Lim.nil w) (Lim.nil w) (Lim.nil w)
set_option maxRecDepth 100000 in
set_option maxHeartbeats 8000000 in
theorem FracTexts_u (a : Rat) (sa : Fz 40 40 a) (bia : Bool) (aia : Option Addr) (kia cia : Nat) (dia : Bool) (eia : Option Addr) (lia mia : Nat) (t : ByteArray) (ht : t.size ≤ 400) (hd : a.den = 1) (w : World) (ia : Fra w (.agg #[.bool bia, .slice aia kia cia, .bool dia, .slice eia lia mia]) a) :
    Calls Tryz.prog 12 #[.agg #[.bool bia, .slice aia kia cia, .bool dia, .slice eia lia mia], .string t] w fun e w' => e = .returned (.bool true) ∧ Below w.heap.size w w' := by
  have fa : Fz 256 256 a := sa.mono (by decide) (by decide)
  have ht4 : ¬ 400 < (t.size : Int) := by omega
  obtain ⟨n, hn⟩ : ∃ n : ByteArray, n.data.toList = txt a.num := ⟨⟨(txt a.num).toArray⟩, by simp⟩
  have hs : n.data.toList = ftxt a := by unfold ftxt; rw [if_pos hd]; exact hn
  have hdd : (⟨#[49]⟩ : ByteArray).data.toList = txt (a.den : Int) := by
    have h := txt_back (l := [49]) (by decide)
    rw [show tval [49] = 1 from by decide] at h
    rw [hd]
    exact h.symm
  have HT := Lib.hid (fun b a1 k c b2 a2 k2 c2 W (h : Fra W (.agg #[.bool b, .slice a1 k c, .bool b2, .slice a2 k2 c2]) a) => frText_lit b a1 k c b2 a2 k2 c2 a n hs fa W h)
  have HP := Lib.hid (fun W => frParse_text a sa n hs W)
  have HN := Lib.hid (fun va W (h : Num W va a.num) => Text_known va a.num n hn (sa.1.len (by decide)) W h)
  have HD := Lib.hid (fun va W (h : Num W va (a.den : Int)) => Text_known va (a.den : Int) ⟨#[49]⟩ hdd (sa.2.len (by decide)) W h)
  have HE := Lib.hid (fun va vb W (h : Fra W va a) (k : Fra W vb a) => law2_equal_any va vb a fa W h k)
  have HQ := Lib.hid (fun W => frParse_any t ht W)
  have HS := Lib.hid (fun W => ref2Same_zero W)
  clear hn hdd fa ht hs
  have hB := Below.refl w.heap.size w
  obtain ⟨al, xia, hN⟩ := mk hB #[.bool bia, .slice aia kia cia, .bool dia, .slice eia lia mia] 26
  replace ia := ia.on al
  replace hB := hN
  clear al hN
  try simp only [World.size_alloc] at xia
  go_enter Tryz.func12, Tryz.ntmps12
  go_wp2_with fail
  refine (law2_awake_any _).mono ?_
  rintro e w1 ⟨rfl, hb⟩
  replace xia := xia.on hb
  replace ia := ia.on hb
  have hz1 := hb.size
  try simp at hz1
  replace hB := hB.trans (hb.mono hB.size)
  clear hb
  have pia := xia.all4
  have ltia := xia.lt
  go_wp2_with fail
  clear ltia
  clear pia
  have hb := ((Below.refl w1.heap.size w1).alloc (Nat.le_refl _) (.cells #[.bool bia, .slice aia kia cia, .bool dia, .slice eia lia mia] 26))
  have xrow : Bk _ w1.heap.size #[.bool bia, .slice aia kia cia, .bool dia, .slice eia lia mia] 26 := (Bk.new w1 #[.bool bia, .slice aia kia cia, .bool dia, .slice eia lia mia] 26)
  replace xia := xia.on hb
  replace ia := ia.on hb
  replace hB := hB.trans (hb.mono hB.size)
  clear hb
  have rw0 := xrow.cell 0
  have rw1 := xrow.cell 1
  have rw2 := xrow.cell 2
  have rw3 := xrow.cell 3
  simp only [List.getElem?_toArray, List.getElem?_cons_zero, List.getElem?_cons_succ] at rw0 rw1 rw2 rw3
  refine (usable1_fra w1.heap.size a bia aia kia cia dia eia lia mia _ rw0 rw1 rw2 rw3 ia sa).mono ?_
  rintro e w2 ⟨rfl, hb⟩
  clear xrow rw0 rw1 rw2 rw3
  replace xia := xia.on hb
  replace ia := ia.on hb
  replace hB := hB.trans (hb.mono hB.size)
  clear hb
  have pia := xia.all4
  have ltia := xia.lt
  go_wp2_with fail
  clear ltia
  clear pia
  refine (HT.out _ _ _ _ _ _ _ _ _ ia).mono ?_
  rintro e w3 ⟨rfl, hb⟩
  replace xia := xia.on hb
  replace ia := ia.on hb
  have hz3 := hb.size
  try simp at hz3
  replace hB := hB.trans (hb.mono hB.size)
  clear hb
  go_wp2_with fail
  refine (HP.out _).mono ?_
  rintro e w4 ⟨⟨v, rfl, gb⟩, hb⟩
  obtain ⟨bb, ab, kb, cb, db, eb, lb, mb, rfl⟩ := gb.opened
  replace xia := xia.on hb
  replace ia := ia.on hb
  have hz4 := hb.size
  try simp at hz4
  replace hB := hB.trans (hb.mono hB.size)
  clear hb
  have pia := xia.all4
  have ltia := xia.lt
  go_wp2_with fail
  clear ltia
  clear pia
  have hb := ((Below.refl w4.heap.size w4).alloc (Nat.le_refl _) (.cells #[.bool bb, .slice ab kb cb, .bool db, .slice eb lb mb] 26))
  have xb : Bk _ w4.heap.size #[.bool bb, .slice ab kb cb, .bool db, .slice eb lb mb] 26 := (Bk.new w4 #[.bool bb, .slice ab kb cb, .bool db, .slice eb lb mb] 26)
  replace xia := xia.on hb
  replace ia := ia.on hb
  replace gb := gb.on hb
  replace hB := hB.trans (hb.mono hB.size)
  clear hb
  obtain ⟨wb, hwb⟩ : ∃ W, W = (w4.alloc (.cells #[.bool bb, .slice ab kb cb, .bool db, .slice eb lb mb] 26)) := ⟨_, rfl⟩
  rw [← hwb] at hB xia xb ia gb ⊢
  clear hwb
  obtain ⟨-, -, ian, iad⟩ := fra_nums ia
  refine (HN.out _ _ ian).mono ?_
  rintro e w5 ⟨rfl, hb⟩
  replace xia := xia.on hb
  replace xb := xb.on hb
  replace ia := ia.on hb
  replace gb := gb.on hb
  replace ian := ian.on hb
  replace iad := iad.on hb
  have hz5 := hb.size
  try simp at hz5
  replace hB := hB.trans (hb.mono hB.size)
  clear hb
  have pia := xia.all4
  have pb := xb.all4
  have ltia := xia.lt
  have ltb := xb.lt
  go_wp2_with fail
  clear ltia
  clear ltb
  clear pia pb
  refine (HD.out _ _ iad).mono ?_
  rintro e w6 ⟨rfl, hb⟩
  replace xia := xia.on hb
  replace xb := xb.on hb
  replace ia := ia.on hb
  replace gb := gb.on hb
  replace ian := ian.on hb
  replace iad := iad.on hb
  have hz6 := hb.size
  try simp at hz6
  replace hB := hB.trans (hb.mono hB.size)
  clear hb
  have pia := xia.all4
  have pb := xb.all4
  have ltia := xia.lt
  have ltb := xb.lt
  go_wp2_with fail
  clear ltia
  clear ltb
  clear pia pb
  refine (HE.out _ _ _ ia gb).mono ?_
  rintro e w7 ⟨rfl, hb⟩
  replace xia := xia.on hb
  replace xb := xb.on hb
  replace ia := ia.on hb
  replace gb := gb.on hb
  replace ian := ian.on hb
  replace iad := iad.on hb
  have hz7 := hb.size
  try simp at hz7
  replace hB := hB.trans (hb.mono hB.size)
  clear hb
  clear ian iad gb xia xb
  have := ia
  clear this ia
  go_wp2_with fail
  refine (HQ.out _).mono ?_
  rintro e wq ⟨hq, hb⟩
  replace hB := hB.trans (hb.mono hB.size)
  clear hb
  rcases hq with rfl | ⟨q, bp, ap, kp, cp, dp, ep, lp, mp, rfl, gp, fq, hq⟩
  · skip
    go_wp2_with fail
    have hb := ((Below.refl wq.heap.size wq).alloc (Nat.le_refl _) (.cells #[.bool false, .slice none 0 0, .bool false, .slice none 0 0] 26))
    have xp : Bk _ wq.heap.size #[.bool false, .slice none 0 0, .bool false, .slice none 0 0] 26 := (Bk.new wq #[.bool false, .slice none 0 0, .bool false, .slice none 0 0] 26)
    replace hB := hB.trans (hb.mono hB.size)
    clear hb
    obtain ⟨wp, hwp⟩ : ∃ W, W = (wq.alloc (.cells #[.bool false, .slice none 0 0, .bool false, .slice none 0 0] 26)) := ⟨_, rfl⟩
    rw [← hwp] at hB xp ⊢
    clear hwp
    refine (HS.out _).mono ?_
    rintro e w8 ⟨rfl, hb⟩
    replace xp := xp.on hb
    have hz8 := hb.size
    try simp at hz8
    replace hB := hB.trans (hb.mono hB.size)
    clear hb
    go_wp2
    go_ret
    exact ⟨rfl, hB⟩
  · skip
    have HU := Lib.hid (fun W (h : Fra W (.agg #[.bool bp, .slice ap kp cp, .bool dp, .slice ep lp mp]) q) => frText_lit bp ap kp cp dp ep lp mp q t hq fq W h)
    clear hq fq
    go_wp2_with fail
    have hb := ((Below.refl wq.heap.size wq).alloc (Nat.le_refl _) (.cells #[.bool bp, .slice ap kp cp, .bool dp, .slice ep lp mp] 26))
    have xp : Bk _ wq.heap.size #[.bool bp, .slice ap kp cp, .bool dp, .slice ep lp mp] 26 := (Bk.new wq #[.bool bp, .slice ap kp cp, .bool dp, .slice ep lp mp] 26)
    replace gp := gp.on hb
    replace hB := hB.trans (hb.mono hB.size)
    clear hb
    obtain ⟨wp, hwp⟩ : ∃ W, W = (wq.alloc (.cells #[.bool bp, .slice ap kp cp, .bool dp, .slice ep lp mp] 26)) := ⟨_, rfl⟩
    rw [← hwp] at hB xp gp ⊢
    clear hwp
    refine (HU.out _ gp).mono ?_
    rintro e w8 ⟨rfl, hb⟩
    replace xp := xp.on hb
    replace gp := gp.on hb
    have hz8 := hb.size
    try simp at hz8
    replace hB := hB.trans (hb.mono hB.size)
    clear hb
    go_wp2
    go_ret
    exact ⟨rfl, hB⟩
set_option maxRecDepth 100000 in
set_option maxHeartbeats 8000000 in
theorem FracTexts_v (a : Rat) (sa : Fz 40 40 a) (bia : Bool) (aia : Option Addr) (kia cia : Nat) (dia : Bool) (eia : Option Addr) (lia mia : Nat) (t : ByteArray) (ht : t.size ≤ 400) (hd : a.den ≠ 1) (w : World) (ia : Fra w (.agg #[.bool bia, .slice aia kia cia, .bool dia, .slice eia lia mia]) a) :
    Calls Tryz.prog 12 #[.agg #[.bool bia, .slice aia kia cia, .bool dia, .slice eia lia mia], .string t] w fun e w' => e = .returned (.bool true) ∧ Below w.heap.size w w' := by
  have fa : Fz 256 256 a := sa.mono (by decide) (by decide)
  have ht4 : ¬ 400 < (t.size : Int) := by omega
  obtain ⟨n, hn⟩ : ∃ n : ByteArray, n.data.toList = txt a.num := ⟨⟨(txt a.num).toArray⟩, by simp⟩
  obtain ⟨d, hdd⟩ : ∃ n : ByteArray, n.data.toList = txt (a.den : Int) := ⟨⟨(txt (a.den : Int)).toArray⟩, by simp⟩
  have hs : (n ++ ⟨#[47]⟩ ++ d).data.toList = ftxt a := by unfold ftxt; rw [if_neg hd, ← hn, ← hdd]; simp
  have hd1 : d ≠ ⟨#[49]⟩ := by
    intro e
    have h1 : txt (a.den : Int) = [49] := by rw [← hdd, e]
    have h2 := (txt_wf (a.den : Int)).2.1
    rw [h1] at h2
    exact hd (by have h3 : tval [49] = 1 := by decide
                 omega)
  have hd3 : ¬ d.toList = [49] := fun e => by
    rw [ByteArray.toList_eq, hdd] at e
    have h2 := (txt_wf (a.den : Int)).2.1
    rw [e] at h2
    exact hd (by have h3 : tval [49] = 1 := by decide
                 omega)
  have hnz : n.size ≤ 501 := by have h := (txt_len (sa.1.mono (by decide) : Sz 100 a.num)).1; rw [← hn] at h; simpa using h
  have hdz : d.size ≤ 501 := by have h := (txt_len (sa.2.mono (by decide) : Sz 100 (a.den : Int))).1; rw [← hdd] at h; simpa using h
  have HT := Lib.hid (fun b a1 k c b2 a2 k2 c2 W (h : Fra W (.agg #[.bool b, .slice a1 k c, .bool b2, .slice a2 k2 c2]) a) => frText_lit b a1 k c b2 a2 k2 c2 a (n ++ ⟨#[47]⟩ ++ d) hs fa W h)
  have HP := Lib.hid (fun W => frParse_text a sa (n ++ ⟨#[47]⟩ ++ d) hs W)
  have HN := Lib.hid (fun va W (h : Num W va a.num) => Text_known va a.num n hn (sa.1.len (by decide)) W h)
  have HD := Lib.hid (fun va W (h : Num W va (a.den : Int)) => Text_known va (a.den : Int) d hdd (sa.2.len (by decide)) W h)
  have HE := Lib.hid (fun va vb W (h : Fra W va a) (k : Fra W vb a) => law2_equal_any va vb a fa W h k)
  have HQ := Lib.hid (fun W => frParse_any t ht W)
  have HS := Lib.hid (fun W => ref2Same_zero W)
  clear hn hdd fa ht hs hd
  have hB := Below.refl w.heap.size w
  obtain ⟨al, xia, hN⟩ := mk hB #[.bool bia, .slice aia kia cia, .bool dia, .slice eia lia mia] 26
  replace ia := ia.on al
  replace hB := hN
  clear al hN
  try simp only [World.size_alloc] at xia
  go_enter Tryz.func12, Tryz.ntmps12
  go_wp2_with fail
  refine (law2_awake_any _).mono ?_
  rintro e w1 ⟨rfl, hb⟩
  replace xia := xia.on hb
  replace ia := ia.on hb
  have hz1 := hb.size
  try simp at hz1
  replace hB := hB.trans (hb.mono hB.size)
  clear hb
  have pia := xia.all4
  have ltia := xia.lt
  go_wp2_with fail
  clear ltia
  clear pia
  have hb := ((Below.refl w1.heap.size w1).alloc (Nat.le_refl _) (.cells #[.bool bia, .slice aia kia cia, .bool dia, .slice eia lia mia] 26))
  have xrow : Bk _ w1.heap.size #[.bool bia, .slice aia kia cia, .bool dia, .slice eia lia mia] 26 := (Bk.new w1 #[.bool bia, .slice aia kia cia, .bool dia, .slice eia lia mia] 26)
  replace xia := xia.on hb
  replace ia := ia.on hb
  replace hB := hB.trans (hb.mono hB.size)
  clear hb
  have rw0 := xrow.cell 0
  have rw1 := xrow.cell 1
  have rw2 := xrow.cell 2
  have rw3 := xrow.cell 3
  simp only [List.getElem?_toArray, List.getElem?_cons_zero, List.getElem?_cons_succ] at rw0 rw1 rw2 rw3
  refine (usable1_fra w1.heap.size a bia aia kia cia dia eia lia mia _ rw0 rw1 rw2 rw3 ia sa).mono ?_
  rintro e w2 ⟨rfl, hb⟩
  clear xrow rw0 rw1 rw2 rw3
  replace xia := xia.on hb
  replace ia := ia.on hb
  replace hB := hB.trans (hb.mono hB.size)
  clear hb
  have pia := xia.all4
  have ltia := xia.lt
  go_wp2_with fail
  clear ltia
  clear pia
  refine (HT.out _ _ _ _ _ _ _ _ _ ia).mono ?_
  rintro e w3 ⟨rfl, hb⟩
  replace xia := xia.on hb
  replace ia := ia.on hb
  have hz3 := hb.size
  try simp at hz3
  replace hB := hB.trans (hb.mono hB.size)
  clear hb
  go_wp2_with fail
  refine (HP.out _).mono ?_
  rintro e w4 ⟨⟨v, rfl, gb⟩, hb⟩
  obtain ⟨bb, ab, kb, cb, db, eb, lb, mb, rfl⟩ := gb.opened
  replace xia := xia.on hb
  replace ia := ia.on hb
  have hz4 := hb.size
  try simp at hz4
  replace hB := hB.trans (hb.mono hB.size)
  clear hb
  have pia := xia.all4
  have ltia := xia.lt
  go_wp2_with fail
  clear ltia
  clear pia
  have hb := ((Below.refl w4.heap.size w4).alloc (Nat.le_refl _) (.cells #[.bool bb, .slice ab kb cb, .bool db, .slice eb lb mb] 26))
  have xb : Bk _ w4.heap.size #[.bool bb, .slice ab kb cb, .bool db, .slice eb lb mb] 26 := (Bk.new w4 #[.bool bb, .slice ab kb cb, .bool db, .slice eb lb mb] 26)
  replace xia := xia.on hb
  replace ia := ia.on hb
  replace gb := gb.on hb
  replace hB := hB.trans (hb.mono hB.size)
  clear hb
  obtain ⟨wb, hwb⟩ : ∃ W, W = (w4.alloc (.cells #[.bool bb, .slice ab kb cb, .bool db, .slice eb lb mb] 26)) := ⟨_, rfl⟩
  rw [← hwb] at hB xia xb ia gb ⊢
  clear hwb
  obtain ⟨-, -, ian, iad⟩ := fra_nums ia
  refine (HN.out _ _ ian).mono ?_
  rintro e w5 ⟨rfl, hb⟩
  replace xia := xia.on hb
  replace xb := xb.on hb
  replace ia := ia.on hb
  replace gb := gb.on hb
  replace ian := ian.on hb
  replace iad := iad.on hb
  have hz5 := hb.size
  try simp at hz5
  replace hB := hB.trans (hb.mono hB.size)
  clear hb
  have pia := xia.all4
  have pb := xb.all4
  have ltia := xia.lt
  have ltb := xb.lt
  go_wp2_with fail
  clear ltia
  clear ltb
  clear pia pb
  refine (HD.out _ _ iad).mono ?_
  rintro e w6 ⟨rfl, hb⟩
  replace xia := xia.on hb
  replace xb := xb.on hb
  replace ia := ia.on hb
  replace gb := gb.on hb
  replace ian := ian.on hb
  replace iad := iad.on hb
  have hz6 := hb.size
  try simp at hz6
  replace hB := hB.trans (hb.mono hB.size)
  clear hb
  have pia := xia.all4
  have pb := xb.all4
  have ltia := xia.lt
  have ltb := xb.lt
  go_wp2_with fail
  clear ltia
  clear ltb
  clear pia pb
  refine (HE.out _ _ _ ia gb).mono ?_
  rintro e w7 ⟨rfl, hb⟩
  replace xia := xia.on hb
  replace xb := xb.on hb
  replace ia := ia.on hb
  replace gb := gb.on hb
  replace ian := ian.on hb
  replace iad := iad.on hb
  have hz7 := hb.size
  try simp at hz7
  replace hB := hB.trans (hb.mono hB.size)
  clear hb
  clear ian iad gb xia xb
  have := ia
  clear this ia
  go_wp2_with fail
  refine (HQ.out _).mono ?_
  rintro e wq ⟨hq, hb⟩
  replace hB := hB.trans (hb.mono hB.size)
  clear hb
  rcases hq with rfl | ⟨q, bp, ap, kp, cp, dp, ep, lp, mp, rfl, gp, fq, hq⟩
  · skip
    go_wp2_with fail
    have hb := ((Below.refl wq.heap.size wq).alloc (Nat.le_refl _) (.cells #[.bool false, .slice none 0 0, .bool false, .slice none 0 0] 26))
    have xp : Bk _ wq.heap.size #[.bool false, .slice none 0 0, .bool false, .slice none 0 0] 26 := (Bk.new wq #[.bool false, .slice none 0 0, .bool false, .slice none 0 0] 26)
    replace hB := hB.trans (hb.mono hB.size)
    clear hb
    obtain ⟨wp, hwp⟩ : ∃ W, W = (wq.alloc (.cells #[.bool false, .slice none 0 0, .bool false, .slice none 0 0] 26)) := ⟨_, rfl⟩
    rw [← hwp] at hB xp ⊢
    clear hwp
    refine (HS.out _).mono ?_
    rintro e w8 ⟨rfl, hb⟩
    replace xp := xp.on hb
    have hz8 := hb.size
    try simp at hz8
    replace hB := hB.trans (hb.mono hB.size)
    clear hb
    go_wp2
    go_ret
    exact ⟨rfl, hB⟩
  · skip
    have HU := Lib.hid (fun W (h : Fra W (.agg #[.bool bp, .slice ap kp cp, .bool dp, .slice ep lp mp]) q) => frText_lit bp ap kp cp dp ep lp mp q t hq fq W h)
    clear hq fq
    go_wp2_with fail
    have hb := ((Below.refl wq.heap.size wq).alloc (Nat.le_refl _) (.cells #[.bool bp, .slice ap kp cp, .bool dp, .slice ep lp mp] 26))
    have xp : Bk _ wq.heap.size #[.bool bp, .slice ap kp cp, .bool dp, .slice ep lp mp] 26 := (Bk.new wq #[.bool bp, .slice ap kp cp, .bool dp, .slice ep lp mp] 26)
    replace gp := gp.on hb
    replace hB := hB.trans (hb.mono hB.size)
    clear hb
    obtain ⟨wp, hwp⟩ : ∃ W, W = (wq.alloc (.cells #[.bool bp, .slice ap kp cp, .bool dp, .slice ep lp mp] 26)) := ⟨_, rfl⟩
    rw [← hwp] at hB xp gp ⊢
    clear hwp
    refine (HU.out _ gp).mono ?_
    rintro e w8 ⟨rfl, hb⟩
    replace xp := xp.on hb
    replace gp := gp.on hb
    have hz8 := hb.size
    try simp at hz8
    replace hB := hB.trans (hb.mono hB.size)
    clear hb
    go_wp2
    go_ret
    exact ⟨rfl, hB⟩
set_option maxRecDepth 100000 in
set_option maxHeartbeats 8000000 in
theorem FracTexts_wide (a : Rat) (sa : Fz 40 40 a) (bia : Bool) (aia : Option Addr) (kia cia : Nat) (dia : Bool) (eia : Option Addr) (lia mia : Nat) (t : ByteArray) (ht : 400 < t.size) (w : World) (ia : Fra w (.agg #[.bool bia, .slice aia kia cia, .bool dia, .slice eia lia mia]) a) :
    Calls Tryz.prog 12 #[.agg #[.bool bia, .slice aia kia cia, .bool dia, .slice eia lia mia], .string t] w fun e w' => e = .returned (.bool true) ∧ Below w.heap.size w w' := by
  have ht4 : 400 < (t.size : Int) := by omega
  have hB := Below.refl w.heap.size w
  obtain ⟨al, xia, hN⟩ := mk hB #[.bool bia, .slice aia kia cia, .bool dia, .slice eia lia mia] 26
  replace ia := ia.on al
  replace hB := hN
  clear al hN
  try simp only [World.size_alloc] at xia
  go_enter Tryz.func12, Tryz.ntmps12
  go_wp2_with fail
  refine (law2_awake_any _).mono ?_
  rintro e w1 ⟨rfl, hb⟩
  replace xia := xia.on hb
  replace ia := ia.on hb
  have hz1 := hb.size
  try simp at hz1
  replace hB := hB.trans (hb.mono hB.size)
  clear hb
  have pia := xia.all4
  have ltia := xia.lt
  go_wp2_with fail
  clear ltia
  clear pia
  have hb := ((Below.refl w1.heap.size w1).alloc (Nat.le_refl _) (.cells #[.bool bia, .slice aia kia cia, .bool dia, .slice eia lia mia] 26))
  have xrow : Bk _ w1.heap.size #[.bool bia, .slice aia kia cia, .bool dia, .slice eia lia mia] 26 := (Bk.new w1 #[.bool bia, .slice aia kia cia, .bool dia, .slice eia lia mia] 26)
  replace xia := xia.on hb
  replace ia := ia.on hb
  replace hB := hB.trans (hb.mono hB.size)
  clear hb
  have rw0 := xrow.cell 0
  have rw1 := xrow.cell 1
  have rw2 := xrow.cell 2
  have rw3 := xrow.cell 3
  simp only [List.getElem?_toArray, List.getElem?_cons_zero, List.getElem?_cons_succ] at rw0 rw1 rw2 rw3
  refine (usable1_fra w1.heap.size a bia aia kia cia dia eia lia mia _ rw0 rw1 rw2 rw3 ia sa).mono ?_
  rintro e w2 ⟨rfl, hb⟩
  clear xrow rw0 rw1 rw2 rw3
  replace xia := xia.on hb
  replace ia := ia.on hb
  replace hB := hB.trans (hb.mono hB.size)
  clear hb
  go_wp2
  go_ret
  exact ⟨rfl, hB⟩
theorem FracTexts_core (a : Rat) (sa : Fz 40 40 a) (bia : Bool) (aia : Option Addr) (kia cia : Nat) (dia : Bool) (eia : Option Addr) (lia mia : Nat) (t : ByteArray) (w : World) (ia : Fra w (.agg #[.bool bia, .slice aia kia cia, .bool dia, .slice eia lia mia]) a) :
    Calls Tryz.prog 12 #[.agg #[.bool bia, .slice aia kia cia, .bool dia, .slice eia lia mia], .string t] w fun e w' => e = .returned (.bool true) ∧ Below w.heap.size w w' := by
  rcases Nat.lt_or_ge 400 t.size with ht | ht
  · exact FracTexts_wide a sa bia aia kia cia dia eia lia mia t ht w ia
  · by_cases hd : a.den = 1
    · exact FracTexts_u a sa bia aia kia cia dia eia lia mia t ht hd w ia
    · exact FracTexts_v a sa bia aia kia cia dia eia lia mia t ht hd w ia
end Go.Proofs.YtnnnhjgmgomlpaaGreat
namespace Go.Proofs.YtnnnhjgmgomlpaaGreat
open Go.ChangeShapes Go.WideShapes Go.ChangeAt Go.RowKit
theorem fracTexts_named : Tryz.pinned.checked.prog.funcNamed Rows.fracTextsRow.func = some 12 := by kernel_rfl
theorem fracTexts_closed : joinedFacts Tryz.pinned.checked.prog 12 Tryz.f12 Rows.fracTextsSpec Rows.fracTextsRow = true := by kernel_rfl
theorem fracTexts_inst : Tryz.f12.isInstance Tryz.pinned.checked.prog Rows.fracTextsRow.origin Rows.fracTextsRow.targs := of_decide_eq_true (by kernel_rfl)
theorem fracTexts_wrap : Tryz.f12.isWrapper Tryz.pinned.checked.prog Rows.fracTextsRow.wrapper Rows.fracTextsRow.mainSum := by unfold Func.isWrapper; first | (rw [if_pos (by decide +kernel)]; kernel_rfl) | (rw [if_neg (by decide +kernel)]; exact ⟨rfl, rfl⟩)
end Go.Proofs.YtnnnhjgmgomlpaaGreat
namespace Go.Proofs.YtnnnhjgmgomlpaaGreat
open Go.ChangeShapes Go.WideShapes Go.ChangeAt Go.RowKit Wh
open Go.ChangeMaps (open_string shut_string)
set_option maxRecDepth 100000 in
set_option maxHeartbeats 4000000 in
theorem FracTexts_skip (bia : Bool) (aia : Option Addr) (kia cia : Nat) (dia : Bool) (eia : Option Addr) (lia mia : Nat) (via : Bool) (t : ByteArray) (w : World) (hvia : ∀ W, Below w.heap.size w W → Calls Tryz.prog 51 #[.agg #[.bool bia, .slice aia kia cia, .bool dia, .slice eia lia mia]] W fun e w' => e = .returned (.bool via) ∧ Below W.heap.size W w') (hu : (((decide (kia ≤ 40) && decide (lia ≤ 40)) && via)) = false) :
    Calls Tryz.prog 12 #[.agg #[.bool bia, .slice aia kia cia, .bool dia, .slice eia lia mia], .string t] w fun e w' => e = .returned (.bool true) ∧ Below w.heap.size w w' := by
  have hU := fun B W (hW : Below w.heap.size w W) y0 y1 y2 y3 => usable1_any B bia aia kia cia dia eia lia mia via W y0 y1 y2 y3 (fun V hV => hvia V (hW.trans (hV.mono hW.size)))
  rw [hu] at hU
  have HU := Lib.hid hU
  clear hU hu hvia
  have hB := Below.refl w.heap.size w
  obtain ⟨al, xia, hN⟩ := mk hB #[.bool bia, .slice aia kia cia, .bool dia, .slice eia lia mia] 26
  replace hB := hN
  clear al hN
  try simp only [World.size_alloc] at xia
  go_enter Tryz.func12, Tryz.ntmps12
  go_wp2_with fail
  refine (law2_awake_any _).mono ?_
  rintro e w1 ⟨rfl, hb⟩
  replace xia := xia.on hb
  have hz1 := hb.size
  try simp at hz1
  replace hB := hB.trans (hb.mono hB.size)
  clear hb
  have pia := xia.all4
  have ltia := xia.lt
  go_wp2_with fail
  clear ltia
  clear pia
  have hb := ((Below.refl w1.heap.size w1).alloc (Nat.le_refl _) (.cells #[.bool bia, .slice aia kia cia, .bool dia, .slice eia lia mia] 26))
  have xrow : Bk _ w1.heap.size #[.bool bia, .slice aia kia cia, .bool dia, .slice eia lia mia] 26 := (Bk.new w1 #[.bool bia, .slice aia kia cia, .bool dia, .slice eia lia mia] 26)
  replace xia := xia.on hb
  replace hB := hB.trans (hb.mono hB.size)
  clear hb
  have rw0 := xrow.cell 0
  have rw1 := xrow.cell 1
  have rw2 := xrow.cell 2
  have rw3 := xrow.cell 3
  simp only [List.getElem?_toArray, List.getElem?_cons_zero, List.getElem?_cons_succ] at rw0 rw1 rw2 rw3
  refine (HU.out _ _ hB rw0 rw1 rw2 rw3).mono ?_
  rintro e w2 ⟨rfl, hb⟩
  clear xrow rw0 rw1 rw2 rw3
  replace xia := xia.on hb
  replace hB := hB.trans (hb.mono hB.size)
  clear hb
  go_wp2
  go_ret
  exact ⟨rfl, hB⟩
theorem FracTexts_walk (bia : Bool) (sia : Value) (lia : List Nat) (dia : Bool) (tia : Value) (mia : List Nat) (t : ByteArray) (w : World) (hia : Lim w sia lia) (iia : Lm lia) (gia : Lim w tia mia) (jia : Lm mia) :
    Calls Tryz.prog 12 #[.agg #[.bool bia, sia, .bool dia, tia], .string t] w fun e w' => e = .returned (.bool true) ∧ Below w.heap.size w w' := by
  obtain ⟨aia, cia, rfl⟩ := lim_slice hia
  obtain ⟨eia, fia, rfl⟩ := lim_slice gia
  cases hu : (((decide (lia.length ≤ 40) && decide (mia.length ≤ 40)) && fvld bia lia dia mia)) with
  | false => exact FracTexts_skip bia aia _ cia dia eia _ fia _ t w (fun W hW => frValid_raw bia aia _ cia lia dia eia _ fia mia W (hia.below hW (Nat.le_refl _)) iia (gia.below hW (Nat.le_refl _)) jia) hu
  | true =>
    simp only [Bool.and_eq_true, decide_eq_true_eq] at hu
    obtain ⟨⟨uia, wia⟩, via⟩ := hu
    obtain ⟨qia, nia, -, -, ria, -, sia⟩ := fra_of_fvld via hia iia gia jia
    have f4ia : Fz 40 40 qia := ⟨by unfold Sz; rw [← ria]; exact uia, by unfold Sz; rw [Int.natAbs_natCast, ← sia]; exact wia⟩
    exact FracTexts_core qia f4ia bia aia _ cia dia eia _ fia t w nia
set_option maxRecDepth 100000 in
theorem fracTexts_lifted (os : Os) (started : os.Started) (H : Type) (enc : TypeId × Value → H) :
    ReturnsInHanded {} Tryz.checked os 12 .any (Rows.fracTextsSpec.pre6 enc Tryz.prog Tryz.f12 Rows.fracTextsRow.domain false) (Rows.fracTextsSpec.post enc Tryz.prog Tryz.f12 false true false false) := by
  refine returnsInHanded_of_change_sized (C := Tryz.checked) Tryz.ownKnob started (by kernel_rfl) Tryz.func12
    (ChangeSpec.witness6 (enc := enc) (C := Tryz.checked) false ⟨#[], #[.agg #[.bool false, .slice none 0 0, .bool false, .slice none 0 0], .string ByteArray.empty], []⟩ 8 (by kernel_rfl) (by kernel_rfl) (by kernel_rfl) (by kernel_rfl)) ?_
  intro W base args ds gs before hval0 hW hcnd hsz0 _
  have hval : ∀ (j : Nat) t v, Tryz.f12.params[j]? = some t → args[j]? = some v → Value.okWide Tryz.prog W .any base t v := hval0
  have hsz : (DataW.weightsEach Tryz.prog (Tryz.f12.params.toList ++ Rows.fracTextsSpec.plain.varTypes Tryz.prog) (ds ++ gs)).all (· ≤ reachBytes) = true := hsz0
  have hW' := hW
  obtain ⟨p, q, hA0, hV, rfl, hfz, hnd⟩ := hW
  have hA : DataW.TrodAll enc Tryz.prog W 0 (fun _ => true) true Tryz.f12.params.toList args.toList ds p := hA0
  rw [Tryz.params12] at hA hval hsz
  obtain ⟨v0, vs0, d0, ds0, p0, q0, hargs, rfl, rfl, h0, r0⟩ := trodAll_cons hA
  obtain ⟨v1, vs1, d1, ds1, p1, q1, rfl, rfl, rfl, h1, r1⟩ := trodAll_cons r0
  obtain ⟨rfl, rfl, rfl⟩ := trodAll_nil r1
  obtain rfl : args = #[v0, v1] := by cases args; simp_all
  obtain ⟨rfl, rfl⟩ := trodVars_none hV
  obtain ⟨b0, s0, l0, b0', s0', l0', rfl, lim0, lm0, lim0', lm0', again0⟩ := open_frac (hval 0 26 _ rfl rfl) h0 (within_of hsz (j := 0) rfl rfl)
  obtain ⟨x1, rfl, rfl, rfl, wf1⟩ := open_string Tryz.underlying9 (hval 1 9 v1 rfl rfl) h1
  clear hA0 hval0
  simp only [List.append_nil] at hW'
  refine (FracTexts_walk b0 s0 l0 b0' s0' l0' x1 W lim0 lm0 lim0' lm0').mono fun e W' ⟨he, hb⟩ => ?_
  subst he
  exact ⟨_, rfl, lawPost (pa := _) (pv := []) hW' hb (by simp) (ok_one (by kernel_rfl) rfl (okWide_bool_mk Tryz.underlying4 _)) (fun _ _ _ => (trodAll_cons_mk (shut_bool Tryz.underlying4 _) trodAll_mk0)) (fun sp hsp => (trodAll_cons_mk (again0 W' sp hb (fun q hq => hsp q (by simpa using hq))) (trodAll_cons_mk (shut_string Tryz.underlying9 wf1) trodAll_mk0))) (fun _ _ => rfl)⟩
theorem fracTexts_proved : Rows.FracTextsSaid :=
  OpenClaim.holds_of_wide 12 Tryz.f12 rfl rfl rfl rfl rfl rfl rfl ⟨rfl, rfl, rfl, rfl, rfl⟩ rfl rfl rfl rfl rfl fracTexts_named Tryz.func12 fracTexts_closed fracTexts_inst fracTexts_wrap
    (fun os started H enc _ => fracTexts_lifted os started H enc)
end Go.Proofs.YtnnnhjgmgomlpaaGreat
