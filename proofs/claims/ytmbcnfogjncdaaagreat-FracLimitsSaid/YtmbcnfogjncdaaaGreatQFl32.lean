/- A part of the proofs about fractions. -/
import Derived.Test.YtmbcnfogjncdaaaGreatQFl2
import Derived.Test.YtmbcnfogjncdaaaGreatQFl31
set_option maxRecDepth 100000
set_option maxHeartbeats 4000000
namespace Go.Proofs.YtmbcnfogjncdaaaGreat
open Go.RowKit Wh
theorem fra_of_nums {W : World} {b b' : Bool} {s s' : Value} {q : Rat} (h : Num W (.agg #[.bool b, s]) q.num) (g : Num W (.agg #[.bool b', s']) (q.den : Int)) : Fra W (.agg #[.bool b, s, .bool b', s']) q := by
 obtain ⟨e1, l1⟩ := lim_of_num h
 obtain ⟨e2, l2⟩ := lim_of_num g
 rw [Int.natAbs_natCast] at l2
 have e3 : b' = false := e2.trans (decide_eq_false (by omega))
 subst e1; subst e3
 exact ⟨s, s', rfl, l1, l2⟩
theorem pow_long {q : Rat} {m n : Nat} (h : m ≤ n) (hm : ¬ Fz 256 256 (q ^ m)) : ¬ Fz 256 256 (q ^ n) := by
 intro g
 apply hm
 have e : ∀ k : Nat, Fz 256 256 (q ^ k) ↔ Sz 256 (q.num ^ k) ∧ Sz 256 ((q.den : Int) ^ k) := fun k => by
  unfold Fz; rw [Rat.num_pow, Rat.den_pow, Int.natCast_pow]
 rw [e] at g ⊢
 exact ⟨Classical.byContradiction fun h1 => long_mono h h1 g.1, Classical.byContradiction fun h1 => long_mono h h1 g.2⟩
def fitB (z : Rat) : Bool := decide ((dig z.num.natAbs).length ≤ 256) && decide ((dig z.den).length ≤ 256)
theorem fitB_iff {z : Rat} : fitB z = true ↔ Fz 256 256 z := by
 unfold fitB Fz Sz; rw [Int.natAbs_natCast]; simp only [Bool.and_eq_true, decide_eq_true_eq]
theorem fits_fra (v : Value) (z : Rat) (w : World) (h : Fra w v z) : Calls Tryz.prog 42 #[v] w fun e w' => e = .returned (.bool (fitB z)) ∧ Below w.heap.size w w' := by
 obtain ⟨b, a, k, c, d, e, l, m, rfl⟩ := h.opened
 obtain ⟨e1, e2⟩ := fra_lens h
 have r := ref2Fits_any b a k c d e l m w
 subst e1; subst e2
 exact r
def RpRel (w : World) (X R O : Nat) (CX : Array Value) (q : Rat) (n : Nat) (i : Value) (wr : World) : Prop := ∃ (j : Nat) (b : Bool) (a : Option Addr) (k c : Nat) (d : Bool) (e : Option Addr) (l m : Nat), j ≤ n ∧ i = .int .i64 (j : Int) ∧ Bk wr X CX 39 ∧ Bk wr R #[.bool false, .slice none 0 0, .bool false, .slice none 0 0] 39 ∧ Bk wr O #[.bool b, .slice a k c, .bool d, .slice e l m] 39 ∧ Fra wr (.agg #[.bool b, .slice a k c, .bool d, .slice e l m]) (q ^ j) ∧ Fz 256 256 (q ^ j) ∧ Fra wr (.agg CX) q ∧ Below w.heap.size w wr
theorem ref2FromInt_any (n : Int) (h1 : -9223372036854775808 ≤ n) (h2 : n ≤ 9223372036854775807) (w : World) :
  Calls Tryz.prog 31 #[.int .i64 n] w fun e w' => (∃ v, e = .returned v ∧ Fra w' v (n : Rat)) ∧ Below w.heap.size w w' := by
 have H1 := Lib.hid (fun W => refFromInt_num n h1 h2 W)
 have H2 := Lib.hid (fun W => refFromInt_num 1 (by decide) (by decide) W)
 clear h1 h2
 have hB := Below.refl w.heap.size w
 obtain ⟨al, xr, hN⟩ := mk hB #[.bool false, .slice none 0 0, .bool false, .slice none 0 0] 39
 replace hB := hN; clear al hN
 try simp only [World.size_alloc] at xr
 go_enter Tryz.func31, Tryz.ntmps31
 have pr := xr.all4
 have ltr := xr.lt
 go_wp2_with fail
 clear ltr pr
 refine (H1.out _).mono ?_
 rintro e w1 ⟨⟨v1, rfl, g1⟩, hb⟩
 obtain ⟨bp, ap, kp, cp, rfl⟩ := g1.opened
 replace xr := xr.on hb
 have hz1 := hb.size
 try simp at hz1
 replace hB := hB.trans (hb.mono hB.size); clear hb
 have pr := xr.all4
 have ltr := xr.lt
 go_wp2_with fail
 clear ltr pr
 refine (H2.out _).mono ?_
 rintro e w2 ⟨⟨v2, rfl, g2⟩, hb⟩
 obtain ⟨bq, aq, kq, cq, rfl⟩ := g2.opened
 replace xr := xr.on hb; replace g1 := g1.on hb; replace hB := hB.trans (hb.mono hB.size); clear hb
 have gy := fra_of_nums (q := (n : Rat)) (by rw [Rat.num_intCast]; exact g1) (by rw [Rat.den_intCast]; exact g2)
 clear g1 g2
 have pr := xr.all4
 have ltr := xr.lt
 go_wp2
 clear ltr pr; replace gy := gy.setB4 xr rfl (.bool bp) (.slice ap kp cp) (.bool bq) (.slice aq kq cq) rfl; replace xr := xr.put4 (.bool bp) (.slice ap kp cp) (.bool bq) (.slice aq kq cq); replace hB := below4 hB w.heap.size (by first | omega | (simp; omega) | simp) (.bool bp) (.slice ap kp cp) (.bool bq) (.slice aq kq cq)
 generalize ((((w2.setCell ⟨w.heap.size, 0, none⟩ (.bool bp)).setCell ⟨w.heap.size, 1, none⟩ (.slice ap kp cp)).setCell ⟨w.heap.size, 2, none⟩ (.bool bq)).setCell ⟨w.heap.size, 3, none⟩ (.slice aq kq cq)) = WF at *
 have pr := xr.all4
 have ltr := xr.lt
 exact bodyPost_ret (v := .agg #[.bool bp, .slice ap kp cp, .bool bq, .slice aq kq cq]) (by simp [results, Tryz.results31, go_sem, pr]) rfl ⟨⟨_, rfl, gy⟩, hB⟩
theorem ref2Pow_up (bx : Bool) (ax : Option Addr) (kx cx : Nat) (dx : Bool) (ex : Option Addr) (lx mx : Nat) (q : Rat) (sq : Fz 256 256 q) (hq0 : q ≠ 0) (hq1 : dig q.num.natAbs ≠ [1]) (n : Nat) (hn1 : 0 < n) (hn2 : n ≤ 1000000) (w : World) (gx : Fra w (.agg #[.bool bx, .slice ax kx cx, .bool dx, .slice ex lx mx]) q) :
  Calls Tryz.prog 37 #[.agg #[.bool bx, .slice ax kx cx, .bool dx, .slice ex lx mx], .int .i64 (n : Int)] w fun e w' => (∃ v c, e = .returned (.tuple #[v, .int .i64 c]) ∧ AnsF w' (fitF (q ^ n)) 3 v c) ∧ Below w.heap.size w w' := by
 have HX := Lib.hid (fun W (hW : Below w.heap.size w W) => ref2Valid_fra _ q sq W (gx.below hW (Nat.le_refl _)))
 obtain ⟨-, -, gxn, -⟩ := fra_nums gx
 have hk := (num_len gxn).1
 have hkx : kx ≠ 0 := fun e => hq0 (by rw [e] at hk; have h1 := (dig_nil_iff _).1 (List.eq_nil_of_length_eq_zero hk.symm); exact (Fq.num_zero q).1 (by omega))
 have HZ := Lib.hid (fun W => ref2Zero_no bx ax kx cx dx ex lx mx hkx W)
 have HO := Lib.hid (fun W (h : Lim W (.slice ax kx cx) (dig q.num.natAbs)) => by have r := ref2one_any _ _ (dig_Lm _) W h; rw [decide_eq_false hq1] at r; exact r)
 have HF := Lib.hid (fun W => ref2FromInt_any 1 (by decide) (by decide) W)
 have HT := Lib.hid (fun va vb (j : Nat) W (hf : Fz 256 256 (q ^ j)) (h : Fra W va (q ^ j)) (g : Fra W vb q) => ref2Times_num va vb (q ^ j) q (hf.mono (by decide) (by decide)) (sq.mono (by decide) (by decide)) W h g)
 have HFi := Lib.hid (fun v z W (h : Fra W v z) => fits_fra v z W h)
 have hn0 : 0 < (n : Int) := by omega
 have hn3 : (n : Int) ≤ 1000000 := by omega
 clear hk hkx gxn sq hq0 hq1 hn1 hn2
 have hB := Below.refl w.heap.size w
 obtain ⟨al, xx, hN⟩ := mk hB #[.bool bx, .slice ax kx cx, .bool dx, .slice ex lx mx] 39
 replace gx := gx.on al; replace hB := hN; clear al hN
 try simp only [World.size_alloc] at xx
 obtain ⟨al, xr, hN⟩ := mk hB #[.bool false, .slice none 0 0, .bool false, .slice none 0 0] 39
 replace xx := xx.on al; replace gx := gx.on al; replace hB := hN; clear al hN
 try simp only [World.size_alloc] at xr
 go_enter Tryz.func37, Tryz.ntmps37
 have px := xx.all4
 have pr := xr.all4
 have ltx := xx.lt
 have ltr := xr.lt
 go_wp2_with fail
 clear ltx ltr px pr
 refine (HX.out _ hB).mono ?_
 rintro e w1 ⟨rfl, hb⟩
 replace xx := xx.on hb; replace xr := xr.on hb; replace gx := gx.on hb
 have hz1 := hb.size
 try simp at hz1
 replace hB := hB.trans (hb.mono hB.size); clear hb
 have px := xx.all4
 have pr := xr.all4
 have ltx := xx.lt
 have ltr := xr.lt
 go_wp2_with fail
 clear ltx ltr px pr
 refine (HZ.out _).mono ?_
 rintro e w2 ⟨rfl, hb⟩
 replace xx := xx.on hb; replace xr := xr.on hb; replace gx := gx.on hb
 have hz2 := hb.size
 try simp at hz2
 replace hB := hB.trans (hb.mono hB.size); clear hb
 have px := xx.all4
 have pr := xr.all4
 have ltx := xx.lt
 have ltr := xr.lt
 go_wp2_with fail
 clear ltx ltr px pr
 refine (HZ.out _).mono ?_
 rintro e w3 ⟨rfl, hb⟩
 replace xx := xx.on hb; replace xr := xr.on hb; replace gx := gx.on hb
 have hz3 := hb.size
 try simp at hz3
 replace hB := hB.trans (hb.mono hB.size); clear hb
 have px := xx.all4
 have pr := xr.all4
 have ltx := xx.lt
 have ltr := xr.lt
 go_wp2_with fail
 clear ltx ltr px pr
 obtain ⟨-, -, gxn, -⟩ := fra_nums gx
 refine (HO.out _ (lim_of_num gxn).2).mono ?_
 rintro e we ⟨rfl, e1⟩
 subst e1
 clear gxn
 have px := xx.all4
 have pr := xr.all4
 have ltx := xx.lt
 have ltr := xr.lt
 go_wp2_with fail
 clear ltx ltr px pr
 refine (HF.out _).mono ?_
 rintro e w4 ⟨⟨v1, rfl, go⟩, hb⟩
 rw [show ((1 : Int) : Rat) = q ^ 0 by rw [Rat.pow_zero]; rfl] at go
 obtain ⟨bh, ah, kh, ch, dh, eh, lh, mh, rfl⟩ := go.opened
 replace xx := xx.on hb; replace xr := xr.on hb; replace gx := gx.on hb; replace hB := hB.trans (hb.mono hB.size); clear hb
 have px := xx.all4
 have pr := xr.all4
 have ltx := xx.lt
 have ltr := xr.lt
 go_wp2_with fail
 clear ltx ltr px pr
 have lro := xr.lt
 have hb := ((Below.refl w4.heap.size w4).alloc (Nat.le_refl _) (.cells #[.bool bh, .slice ah kh ch, .bool dh, .slice eh lh mh] 39))
 have xo : Bk _ w4.heap.size #[.bool bh, .slice ah kh ch, .bool dh, .slice eh lh mh] 39 := (Bk.new w4 #[.bool bh, .slice ah kh ch, .bool dh, .slice eh lh mh] 39)
 replace xx := xx.on hb; replace xr := xr.on hb; replace gx := gx.on hb; replace go := go.on hb; replace hB := hB.trans (hb.mono hB.size); clear hb
 obtain ⟨O, hO⟩ : ∃ O, O = w4.heap.size := ⟨_, rfl⟩
 have hO1 : w.heap.size + 1 < O := by rw [hO]; exact lro
 rw [← hO] at xo ⊢
 clear hO lro
 have hf0 : Fz 256 256 (q ^ 0) := by rw [Rat.pow_zero]; exact Fz.one.mono (by decide) (by decide)
 go_loopw [7] (fun i wr => RpRel w w.heap.size (w.heap.size + 1) O #[.bool bx, .slice ax kx cx, .bool dx, .slice ex lx mx] q n i wr) (fun i _ => (n - intOf i).toNat)
 case atStart => exact ⟨0, _, _, _, _, _, _, _, _, Nat.zero_le _, rfl, xx, xr, xo, go, hf0, gx, hB⟩
 case round =>
  clear xx xr xo go hf0 gx hB
  obtain ⟨j, bh, ah, kh, ch, d9, eh, lh, mh, hj, rfl, xx, xr, xo, go, hf, gx, hB⟩ := hrel
  rcases Nat.lt_or_ge j n with hjn | hjn
  ·
   have hj1 : ((j : Int) == (n : Int)) = false := by rw [beq_eq_false_iff_ne]; omega
   have hjb : (j : Int) < (n : Int) := by omega
   have HF1 := Lib.hid (fun va vb W (h : Fra W va (q ^ j)) (g : Fra W vb q) => HT.out va vb j W hf h g)
   have HJ := Lib.hid (And.intro hj hjn)
   clear hf hj hjn
   have px := xx.all4
   have pr := xr.all4
   have po := xo.all4
   have ltx := xx.lt
   have ltr := xr.lt
   have lto := xo.lt
   go_wp2_with fail
   clear ltx ltr lto px pr po
   refine (HF1.out _ _ _ go gx).mono ?_
   rintro e w5 ⟨⟨v1, rfl, gy⟩, hb⟩
   rw [← Rat.pow_succ] at gy
   obtain ⟨bg, ag, kg, cg, dg, eg, lg, mg, rfl⟩ := gy.opened
   replace xx := xx.on hb; replace xr := xr.on hb; replace xo := xo.on hb; replace gx := gx.on hb; replace go := go.on hb
   have hz5 := hb.size
   try simp at hz5
   replace hB := hB.trans (hb.mono hB.size); clear hb go
   have px := xx.all4
   have pr := xr.all4
   have po := xo.all4
   have ltx := xx.lt
   have ltr := xr.lt
   have lto := xo.lt
   go_wp2_with fail
   clear ltx ltr lto px pr po; replace gx := gx.setB4 xo rfl (.bool bg) (.slice ag kg cg) (.bool dg) (.slice eg lg mg) rfl; replace gy := gy.setB4 xo rfl (.bool bg) (.slice ag kg cg) (.bool dg) (.slice eg lg mg) rfl; replace xx := xx.put_other4 O (.bool bg) (.slice ag kg cg) (.bool dg) (.slice eg lg mg) (by omega); replace xr := xr.put_other4 O (.bool bg) (.slice ag kg cg) (.bool dg) (.slice eg lg mg) (by omega); replace xo := xo.put4 (.bool bg) (.slice ag kg cg) (.bool dg) (.slice eg lg mg); replace hB := below4 hB O (by first | omega | (simp; omega) | simp) (.bool bg) (.slice ag kg cg) (.bool dg) (.slice eg lg mg); clear HF1
   refine (HFi.out _ _ _ gy).mono ?_
   rintro e w6 ⟨rfl, hb⟩
   replace xx := xx.on hb; replace xr := xr.on hb; replace xo := xo.on hb; replace gx := gx.on hb; replace gy := gy.on hb; replace hB := hB.trans (hb.mono (by have := hB.size; simp at this ⊢; omega)); clear hb
   cases hfb : fitB (q ^ (j + 1)) with
   | false =>
    have HFB := Lib.hid (fitF_not (pow_long (m := j + 1) (n := n) (by have := HJ.out; omega) (fun g => by rw [fitB_iff.2 g] at hfb; exact absurd hfb (by decide)) : ¬ Fz 256 256 (q ^ n)))
    clear hfb gy gx
    have px := xx.all4
    have pr := xr.all4
    have po := xo.all4
    have ltx := xx.lt
    have ltr := xr.lt
    have lto := xo.lt
    go_wp2
    clear ltx ltr lto px pr po xx xo; replace xr := xr.put4 (.bool false) (.slice none 0 0) (.bool false) (.slice none 0 0); replace hB := below4 hB (w.heap.size + 1) (by first | omega | (simp; omega) | simp) (.bool false) (.slice none 0 0) (.bool false) (.slice none 0 0)
    generalize ((((w6.setCell ⟨w.heap.size + 1, 0, none⟩ (.bool false)).setCell ⟨w.heap.size + 1, 1, none⟩ (.slice none 0 0)).setCell ⟨w.heap.size + 1, 2, none⟩ (.bool false)).setCell ⟨w.heap.size + 1, 3, none⟩ (.slice none 0 0)) = WF at *
    have pr := xr.all4
    have ltr := xr.lt
    exact bodyPost_ret (v := .tuple #[.agg #[.bool false, .slice none 0 0, .bool false, .slice none 0 0], .int .i64 3]) (by simp [results, Tryz.results37, go_sem, pr]) rfl ⟨⟨_, _, rfl, .inr ⟨HFB.out, rfl, rfl⟩⟩, hB⟩
   | true =>
    have HFB := Lib.hid (fitB_iff.1 hfb)
    clear hfb
    have px := xx.all4
    have pr := xr.all4
    have po := xo.all4
    have ltx := xx.lt
    have ltr := xr.lt
    have lto := xo.lt
    go_wp2_with fail
    clear ltx ltr lto px pr po
    exact ⟨⟨j + 1, _, _, _, _, _, _, _, _, by have := HJ.out; omega, by go_num, xx, xr, xo, gy, HFB.out, gx, hB⟩, by have := HJ.out; simp [intOf]; omega⟩
  ·
   obtain rfl : n = j := by omega
   have hj1 : ((n : Int) == (n : Int)) = true := by simp
   clear hj hjn gx
   have px := xx.all4
   have pr := xr.all4
   have po := xo.all4
   have ltx := xx.lt
   have ltr := xr.lt
   have lto := xo.lt
   go_wp2
   clear ltx ltr lto px pr po xx
   have HFB := Lib.hid (fitF_fz hf)
   clear hf; replace go := go.setB4 xr rfl (.bool bh) (.slice ah kh ch) (.bool d9) (.slice eh lh mh) rfl; replace xo := xo.put_other4 (w.heap.size + 1) (.bool bh) (.slice ah kh ch) (.bool d9) (.slice eh lh mh) (by omega); replace xr := xr.put4 (.bool bh) (.slice ah kh ch) (.bool d9) (.slice eh lh mh); replace hB := below4 hB (w.heap.size + 1) (by first | omega | (simp; omega) | simp) (.bool bh) (.slice ah kh ch) (.bool d9) (.slice eh lh mh)
   generalize ((((wr.setCell ⟨w.heap.size + 1, 0, none⟩ (.bool bh)).setCell ⟨w.heap.size + 1, 1, none⟩ (.slice ah kh ch)).setCell ⟨w.heap.size + 1, 2, none⟩ (.bool d9)).setCell ⟨w.heap.size + 1, 3, none⟩ (.slice eh lh mh)) = WF at *
   have pr := xr.all4
   have po := xo.all4
   have ltr := xr.lt
   have lto := xo.lt
   exact bodyPost_ret (v := .tuple #[.agg #[.bool bh, .slice ah kh ch, .bool d9, .slice eh lh mh], .int .i64 0]) (by simp [results, Tryz.results37, go_sem, pr]) rfl ⟨⟨_, _, rfl, .inl ⟨_, HFB.out, rfl, go⟩⟩, hB⟩
end Go.Proofs.YtmbcnfogjncdaaaGreat
namespace Go.Proofs.YtmbcnfogjncdaaaGreat
open Go.RowKit
theorem fPick_any (x n : Int) (hn : 1 ≤ n) (hn2 : n ≤ 1000000000) (w : World) : Calls Tryz.prog 36 #[.int .i64 x, .int .i64 n] w fun e w' => e = .returned (.int .i64 (x % n)) ∧ w = w' := by
  have hb : -n < x.tmod n ∧ x.tmod n < n := ⟨Int.lt_tmod_of_pos _ (by omega), Int.tmod_lt_of_pos _ (by omega)⟩
  have hz : n ≠ 0 := by omega
  have hz' : ¬ n = 0 := hz
  by_cases h : x.tmod n < 0
  · have HE := Lib.hid (show x % n = x.tmod n + n by
      have h1 := Int.emod_nonneg x hz
      have h2 := Int.emod_lt_of_pos x (show 0 < n by omega)
      have h3 := Int.tmod_add_mul_tdiv x n
      have h4 := Int.emod_add_mul_ediv x n
      have h5 : x.tmod n + n = x % n + n * (x / n - x.tdiv n + 1) := by rw [Int.mul_add, Int.mul_sub]; omega
      have h6 : n * (x / n - x.tdiv n + 1) < n := by omega
      have h7 : -n < n * (x / n - x.tdiv n + 1) := by omega
      have h8 : x / n - x.tdiv n + 1 < 1 := Int.lt_of_mul_lt_mul_left (a := n) (by omega) (by omega)
      have h9 : -1 < x / n - x.tdiv n + 1 := Int.lt_of_mul_lt_mul_left (a := n) (by omega) (by omega)
      have : x / n - x.tdiv n + 1 = 0 := by omega
      rw [this] at h5
      omega)
    go_enter Tryz.func36, Tryz.ntmps36
    go_wp2
    go_ret
    exact ⟨by rw [HE.out]; rfl, rfl⟩
  · have HE := Lib.hid (show x % n = x.tmod n by
      have h1 := Int.emod_nonneg x hz
      have h2 := Int.emod_lt_of_pos x (show 0 < n by omega)
      have h3 := Int.tmod_add_mul_tdiv x n
      have h4 := Int.emod_add_mul_ediv x n
      have h5 : x.tmod n = x % n + n * (x / n - x.tdiv n) := by rw [Int.mul_sub]; omega
      have h6 : n * (x / n - x.tdiv n) < n := by omega
      have h7 : -n < n * (x / n - x.tdiv n) := by omega
      have h8 : x / n - x.tdiv n < 1 := Int.lt_of_mul_lt_mul_left (a := n) (by omega) (by omega)
      have h9 : -1 < x / n - x.tdiv n := Int.lt_of_mul_lt_mul_left (a := n) (by omega) (by omega)
      have : x / n - x.tdiv n = 0 := by omega
      rw [this] at h5
      omega)
    go_enter Tryz.func36, Tryz.ntmps36
    go_wp2
    go_ret
    exact ⟨by rw [HE.out]; rfl, rfl⟩
end Go.Proofs.YtmbcnfogjncdaaaGreat
