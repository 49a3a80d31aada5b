/- A part of the proofs about fractions. -/
import Derived.Test.YtmbcnfogjncdaaaGreatQFl15
set_option maxRecDepth 100000
set_option maxHeartbeats 2000000
namespace Go.Proofs.YtmbcnfogjncdaaaGreat
open Go.RowKit Wh
theorem LimF.set1 {B : Nat} {W : World} {v : Value} {l : List Nat} (h : LimF B W v l) {p : Addr} (hp : p.block < B) (x : Value) : LimF B (W.setCell p x) v l := h.setCell hp x
theorem NumF.set1 {B : Nat} {W : World} {v : Value} {z : Int} (h : NumF B W v z) {p : Addr} (hp : p.block < B) (x : Value) : NumF B (W.setCell p x) v z := by obtain ⟨s, e, h⟩ := h; exact ⟨s, e, h.setCell hp x⟩
theorem FraF.set1 {B : Nat} {W : World} {v : Value} {q : Rat} (h : FraF B W v q) {p : Addr} (hp : p.block < B) (x : Value) : FraF B (W.setCell p x) v q := by obtain ⟨s, s', e, h, h'⟩ := h; exact ⟨s, s', e, h.setCell hp x, h'.setCell hp x⟩
theorem LimF.set4 {B : Nat} {W : World} {v : Value} {l : List Nat} (h : LimF B W v l) (X : Nat) (hX : X < B) (v0 v1 v2 v3 : Value) : LimF B ((((W.setCell ⟨X, 0, none⟩ v0).setCell ⟨X, 1, none⟩ v1).setCell ⟨X, 2, none⟩ v2).setCell ⟨X, 3, none⟩ v3) v l := (((h.set1 (p := ⟨X, 0, none⟩) hX v0).set1 (p := ⟨X, 1, none⟩) hX v1).set1 (p := ⟨X, 2, none⟩) hX v2).set1 (p := ⟨X, 3, none⟩) hX v3
theorem NumF.set4 {B : Nat} {W : World} {v : Value} {z : Int} (h : NumF B W v z) (X : Nat) (hX : X < B) (v0 v1 v2 v3 : Value) : NumF B ((((W.setCell ⟨X, 0, none⟩ v0).setCell ⟨X, 1, none⟩ v1).setCell ⟨X, 2, none⟩ v2).setCell ⟨X, 3, none⟩ v3) v z := (((h.set1 (p := ⟨X, 0, none⟩) hX v0).set1 (p := ⟨X, 1, none⟩) hX v1).set1 (p := ⟨X, 2, none⟩) hX v2).set1 (p := ⟨X, 3, none⟩) hX v3
theorem FraF.set4 {B : Nat} {W : World} {v : Value} {q : Rat} (h : FraF B W v q) (X : Nat) (hX : X < B) (v0 v1 v2 v3 : Value) : FraF B ((((W.setCell ⟨X, 0, none⟩ v0).setCell ⟨X, 1, none⟩ v1).setCell ⟨X, 2, none⟩ v2).setCell ⟨X, 3, none⟩ v3) v q := (((h.set1 (p := ⟨X, 0, none⟩) hX v0).set1 (p := ⟨X, 1, none⟩) hX v1).set1 (p := ⟨X, 2, none⟩) hX v2).set1 (p := ⟨X, 3, none⟩) hX v3
theorem frdivide_known (va vb : Value) (a b q r : Int) (hd : a = q * b + r ∧ (0 ≤ r ∧ r < b ∨ b < r ∧ r ≤ 0)) (ha : Sz 1024 a) (hb : Sz 1024 b) (hb0 : b ≠ 0) (w : World) (h' : Num w va a) (g' : Num w vb b) :
  Calls Tryz.prog 83 #[va, vb] w fun e w' => (∃ vq vr, e = .returned (.tuple #[vq, vr]) ∧ NumF w.heap.size w' vq q ∧ NumF w.heap.size w' vr r) ∧ Below w.heap.size w w' := by
 refine (frdivide_any va vb a b ha hb hb0 w h' g').mono ?_
 rintro e w' ⟨⟨vq, vr, q', r', rfl, hr, h1, h2⟩, hB⟩
 obtain ⟨rfl, rfl⟩ := hr.uniq' hd
 exact ⟨⟨vq, vr, rfl, h1, h2⟩, hB⟩
theorem tooLong_num (v : Value) (z : Int) (w : World) (h : Num w v z) : Calls Tryz.prog 89 #[v] w fun e w' => e = .returned (.bool (decide (256 < (dig z.natAbs).length))) ∧ Below w.heap.size w w' := by
 obtain ⟨s, rfl, h⟩ := h; exact tooLong_raw _ s _ w h
theorem isZero_num (v : Value) (z : Int) (w : World) (h : Num w v z) : Calls Tryz.prog 82 #[v] w fun e w' => e = .returned (.bool (decide (z = 0))) ∧ Below w.heap.size w w' := by
 obtain ⟨s, rfl, h⟩ := h
 have := isZero_raw (decide (z < 0)) s _ w h
 rwa [show decide (dig z.natAbs = []) = decide (z = 0) from by rw [decide_eq_decide, dig_nil_iff]; omega] at this
theorem isOne_num (v : Value) (z : Int) (w : World) (h : Num w v z) : Calls Tryz.prog 151 #[v] w fun e w' => e = .returned (.bool (decide (z = 1))) ∧ Below w.heap.size w w' := by
 obtain ⟨s, rfl, h⟩ := h
 have := isOne_raw (decide (z < 0)) s _ w h
 rwa [show decide (decide (z < 0) = false ∧ dig z.natAbs = [1]) = decide (z = 1) from by rw [decide_eq_decide, dig_one_iff, decide_eq_false_iff_not]; omega] at this
theorem limited_ok (bn : Bool) (an : Option Addr) (kn cn : Nat) (bd : Bool) (ad : Option Addr) (kd cd : Nat) (n d : Int) (h1 : Sz 256 n) (h2 : Sz 256 d) (w : World) (nn : Num w (.agg #[.bool bn, .slice an kn cn]) n) (nd : Num w (.agg #[.bool bd, .slice ad kd cd]) d) :
  Calls Tryz.prog 84 #[.agg #[.bool bn, .slice an kn cn], .agg #[.bool bd, .slice ad kd cd]] w fun e w' => e = .returned (.tuple #[.agg #[.bool bn, .slice an kn cn, .bool bd, .slice ad kd cd], .int .i64 0]) ∧ Below w.heap.size w w' := by
 have T1 := fun W (hW : Below w.heap.size w W) => tooLong_num _ n W (nn.below hW (Nat.le_refl _))
 rw [show decide (256 < (dig n.natAbs).length) = false from decide_eq_false (Nat.not_lt.2 h1)] at T1
 have H1 := Lib.hid T1
 have T2 := fun W (hW : Below w.heap.size w W) => tooLong_num _ d W (nd.below hW (Nat.le_refl _))
 rw [show decide (256 < (dig d.natAbs).length) = false from decide_eq_false (Nat.not_lt.2 h2)] at T2
 have H2 := Lib.hid T2
 clear T1 h1 nn T2 h2 nd
 have hB := Below.refl w.heap.size w
 obtain ⟨al, xn, hN⟩ := mk hB #[.bool bn, .slice an kn cn] 24
 replace hB := hN; clear al hN
 try simp only [World.size_alloc] at xn
 obtain ⟨al, xd, hN⟩ := mk hB #[.bool bd, .slice ad kd cd] 24
 replace xn := xn.on al; replace hB := hN; clear al hN
 try simp only [World.size_alloc] at xd
 obtain ⟨al, xr, hN⟩ := mk hB #[.bool false, .slice none 0 0, .bool false, .slice none 0 0] 39
 replace xn := xn.on al; replace xd := xd.on al; replace hB := hN; clear al hN
 try simp only [World.size_alloc] at xr
 go_enter Tryz.func84, Tryz.ntmps84
 go_wp2_with fail
 refine (H1.out _ hB).mono ?_
 rintro e w1 ⟨rfl, hb⟩
 replace xn := xn.on hb; replace xd := xd.on hb; replace xr := xr.on hb
 have hz1 := hb.size
 try simp at hz1
 replace hB := hB.trans (hb.mono hB.size); clear hb
 have pn := xn.all2
 have pd := xd.all2
 have pr := xr.all4
 go_wp2_with fail
 clear pn pd pr
 refine (H2.out _ hB).mono ?_
 rintro e w2 ⟨rfl, hb⟩
 replace xn := xn.on hb; replace xd := xd.on hb; replace xr := xr.on hb
 have hz2 := hb.size
 try simp at hz2
 replace hB := hB.trans (hb.mono hB.size); clear hb
 have pn := xn.all2
 have pd := xd.all2
 have pr := xr.all4
 go_wp2_with fail
 clear pn pd pr; replace xn := xn.put_other4 (w.heap.size + 1 + 1) (.bool bn) (.slice an kn cn) (.bool bd) (.slice ad kd cd) (by omega); replace xd := xd.put_other4 (w.heap.size + 1 + 1) (.bool bn) (.slice an kn cn) (.bool bd) (.slice ad kd cd) (by omega); replace xr := xr.put4 (.bool bn) (.slice an kn cn) (.bool bd) (.slice ad kd cd); replace hB := below4 hB (w.heap.size + 1 + 1) (by first | omega | (simp; omega) | simp) (.bool bn) (.slice an kn cn) (.bool bd) (.slice ad kd cd)
 generalize ((((w2.setCell ⟨w.heap.size + 1 + 1, 0, none⟩ (.bool bn)).setCell ⟨w.heap.size + 1 + 1, 1, none⟩ (.slice an kn cn)).setCell ⟨w.heap.size + 1 + 1, 2, none⟩ (.bool bd)).setCell ⟨w.heap.size + 1 + 1, 3, none⟩ (.slice ad kd cd)) = WF at *
 have pn := xn.all2
 have pd := xd.all2
 have pr := xr.all4
 exact bodyPost_ret (v := .tuple #[.agg #[.bool bn, .slice an kn cn, .bool bd, .slice ad kd cd], .int .i64 0]) (by simp [results, Tryz.results84, go_sem, pr]) rfl ⟨rfl, hB⟩
theorem limited_n (bn : Bool) (an : Option Addr) (kn cn : Nat) (bd : Bool) (ad : Option Addr) (kd cd : Nat) (n d : Int) (h1 : ¬ Sz 256 n) (w : World) (nn : Num w (.agg #[.bool bn, .slice an kn cn]) n) (_nd : Num w (.agg #[.bool bd, .slice ad kd cd]) d) :
  Calls Tryz.prog 84 #[.agg #[.bool bn, .slice an kn cn], .agg #[.bool bd, .slice ad kd cd]] w fun e w' => e = .returned (.tuple #[zeroF, .int .i64 3]) ∧ Below w.heap.size w w' := by
 have T1 := fun W (hW : Below w.heap.size w W) => tooLong_num _ n W (nn.below hW (Nat.le_refl _))
 rw [show decide (256 < (dig n.natAbs).length) = true from decide_eq_true (Nat.not_le.1 h1)] at T1
 have H1 := Lib.hid T1
 clear T1 h1 nn
 have hB := Below.refl w.heap.size w
 obtain ⟨al, xn, hN⟩ := mk hB #[.bool bn, .slice an kn cn] 24
 replace hB := hN; clear al hN
 try simp only [World.size_alloc] at xn
 obtain ⟨al, xd, hN⟩ := mk hB #[.bool bd, .slice ad kd cd] 24
 replace xn := xn.on al; replace hB := hN; clear al hN
 try simp only [World.size_alloc] at xd
 obtain ⟨al, xr, hN⟩ := mk hB #[.bool false, .slice none 0 0, .bool false, .slice none 0 0] 39
 replace xn := xn.on al; replace xd := xd.on al; replace hB := hN; clear al hN
 try simp only [World.size_alloc] at xr
 go_enter Tryz.func84, Tryz.ntmps84
 go_wp2_with fail
 refine (H1.out _ hB).mono ?_
 rintro e w1 ⟨rfl, hb⟩
 replace xn := xn.on hb; replace xd := xd.on hb; replace xr := xr.on hb
 have hz1 := hb.size
 try simp at hz1
 replace hB := hB.trans (hb.mono hB.size); clear hb
 have pn := xn.all2
 have pd := xd.all2
 have pr := xr.all4
 go_wp2_with fail
 clear pn pd pr; replace xn := xn.put_other4 (w.heap.size + 1 + 1) (.bool false) (.slice none 0 0) (.bool false) (.slice none 0 0) (by omega); replace xd := xd.put_other4 (w.heap.size + 1 + 1) (.bool false) (.slice none 0 0) (.bool false) (.slice none 0 0) (by omega); replace xr := xr.put4 (.bool false) (.slice none 0 0) (.bool false) (.slice none 0 0); replace hB := below4 hB (w.heap.size + 1 + 1) (by first | omega | (simp; omega) | simp) (.bool false) (.slice none 0 0) (.bool false) (.slice none 0 0)
 generalize ((((w1.setCell ⟨w.heap.size + 1 + 1, 0, none⟩ (.bool false)).setCell ⟨w.heap.size + 1 + 1, 1, none⟩ (.slice none 0 0)).setCell ⟨w.heap.size + 1 + 1, 2, none⟩ (.bool false)).setCell ⟨w.heap.size + 1 + 1, 3, none⟩ (.slice none 0 0)) = WF at *
 have pn := xn.all2
 have pd := xd.all2
 have pr := xr.all4
 exact bodyPost_ret (v := .tuple #[zeroF, .int .i64 3]) (by simp [results, Tryz.results84, go_sem, pr]) rfl ⟨rfl, hB⟩
theorem limited_d (bn : Bool) (an : Option Addr) (kn cn : Nat) (bd : Bool) (ad : Option Addr) (kd cd : Nat) (n d : Int) (h1 : Sz 256 n) (h2 : ¬ Sz 256 d) (w : World) (nn : Num w (.agg #[.bool bn, .slice an kn cn]) n) (nd : Num w (.agg #[.bool bd, .slice ad kd cd]) d) :
  Calls Tryz.prog 84 #[.agg #[.bool bn, .slice an kn cn], .agg #[.bool bd, .slice ad kd cd]] w fun e w' => e = .returned (.tuple #[zeroF, .int .i64 3]) ∧ Below w.heap.size w w' := by
 have T1 := fun W (hW : Below w.heap.size w W) => tooLong_num _ n W (nn.below hW (Nat.le_refl _))
 rw [show decide (256 < (dig n.natAbs).length) = false from decide_eq_false (Nat.not_lt.2 h1)] at T1
 have H1 := Lib.hid T1
 have T2 := fun W (hW : Below w.heap.size w W) => tooLong_num _ d W (nd.below hW (Nat.le_refl _))
 rw [show decide (256 < (dig d.natAbs).length) = true from decide_eq_true (Nat.not_le.1 h2)] at T2
 have H2 := Lib.hid T2
 clear T1 h1 nn T2 h2 nd
 have hB := Below.refl w.heap.size w
 obtain ⟨al, xn, hN⟩ := mk hB #[.bool bn, .slice an kn cn] 24
 replace hB := hN; clear al hN
 try simp only [World.size_alloc] at xn
 obtain ⟨al, xd, hN⟩ := mk hB #[.bool bd, .slice ad kd cd] 24
 replace xn := xn.on al; replace hB := hN; clear al hN
 try simp only [World.size_alloc] at xd
 obtain ⟨al, xr, hN⟩ := mk hB #[.bool false, .slice none 0 0, .bool false, .slice none 0 0] 39
 replace xn := xn.on al; replace xd := xd.on al; replace hB := hN; clear al hN
 try simp only [World.size_alloc] at xr
 go_enter Tryz.func84, Tryz.ntmps84
 go_wp2_with fail
 refine (H1.out _ hB).mono ?_
 rintro e w1 ⟨rfl, hb⟩
 replace xn := xn.on hb; replace xd := xd.on hb; replace xr := xr.on hb
 have hz1 := hb.size
 try simp at hz1
 replace hB := hB.trans (hb.mono hB.size); clear hb
 have pn := xn.all2
 have pd := xd.all2
 have pr := xr.all4
 go_wp2_with fail
 clear pn pd pr
 refine (H2.out _ hB).mono ?_
 rintro e w2 ⟨rfl, hb⟩
 replace xn := xn.on hb; replace xd := xd.on hb; replace xr := xr.on hb
 have hz2 := hb.size
 try simp at hz2
 replace hB := hB.trans (hb.mono hB.size); clear hb
 have pn := xn.all2
 have pd := xd.all2
 have pr := xr.all4
 go_wp2_with fail
 clear pn pd pr; replace xn := xn.put_other4 (w.heap.size + 1 + 1) (.bool false) (.slice none 0 0) (.bool false) (.slice none 0 0) (by omega); replace xd := xd.put_other4 (w.heap.size + 1 + 1) (.bool false) (.slice none 0 0) (.bool false) (.slice none 0 0) (by omega); replace xr := xr.put4 (.bool false) (.slice none 0 0) (.bool false) (.slice none 0 0); replace hB := below4 hB (w.heap.size + 1 + 1) (by first | omega | (simp; omega) | simp) (.bool false) (.slice none 0 0) (.bool false) (.slice none 0 0)
 generalize ((((w2.setCell ⟨w.heap.size + 1 + 1, 0, none⟩ (.bool false)).setCell ⟨w.heap.size + 1 + 1, 1, none⟩ (.slice none 0 0)).setCell ⟨w.heap.size + 1 + 1, 2, none⟩ (.bool false)).setCell ⟨w.heap.size + 1 + 1, 3, none⟩ (.slice none 0 0)) = WF at *
 have pn := xn.all2
 have pd := xd.all2
 have pr := xr.all4
 exact bodyPost_ret (v := .tuple #[zeroF, .int .i64 3]) (by simp [results, Tryz.results84, go_sem, pr]) rfl ⟨rfl, hB⟩
theorem gcd_lim (va vb : Value) (a b : Int) (ha : Sz 1024 a) (hb : Sz 1024 b) (hb0 : b ≠ 0) (w : World) (h : Num w va a) (g : Num w vb b) :
  Calls Tryz.prog 50 #[va, vb] w fun e w' => (∃ ag kg cg, e = .returned (.tuple #[.agg #[.bool false, .slice ag kg cg], .int .i64 0]) ∧ LimF w.heap.size w' (.slice ag kg cg) (dig (Nat.gcd a.natAbs b.natAbs))) ∧ Below w.heap.size w w' := by
 refine (Gcd_ok va vb a b ha hb w h g (gcd_len hb (by omega))).mono ?_
 rintro e w' ⟨⟨v, rfl, ⟨s, rfl, hl⟩⟩, hB⟩
 rw [Int.natAbs_natCast] at hl
 obtain ⟨ag, cg, rfl⟩ := lf_slice hl
 exact ⟨⟨_, _, _, by rw [decide_eq_false (show ¬ ((Nat.gcd a.natAbs b.natAbs : Nat) : Int) < 0 by omega)], hl⟩, hB⟩
theorem cf_num {B : Nat} {W : World} {s : Value} {n d : Int} {bd : Bool} (hd : d ≠ 0) (hb : bd = decide (d < 0)) (h : LimF B W s (dig (Nat.gcd n.natAbs d.natAbs))) : NumF B W (.agg #[.bool bd, s]) (Fq.cf n d) :=
 ⟨s, by rw [hb, decide_eq_decide.2 (Fq.cf_neg hd)], by rw [Fq.cf_abs hd]; exact h⟩
theorem cf_sz {n d : Int} (hd0 : d ≠ 0) (hd : Sz 1024 d) : Sz 1024 (Fq.cf n d) := by
 unfold Sz
 rw [Fq.cf_abs hd0]
 have := gcd_len (n := n.natAbs) hd (by omega)
 rwa [Int.natAbs_natCast] at this
theorem cf_in (n d : Int) : 0 ≤ (0 : Int) ∧ 0 < Fq.cf n d ∨ Fq.cf n d < 0 ∧ (0 : Int) ≤ 0 ∨ d = 0 := by
 by_cases h : d = 0
 · exact .inr (.inr h)
 · have := Fq.cf_ne (n := n) h; omega
theorem Make_ok (bn : Bool) (an : Option Addr) (kn cn : Nat) (bd : Bool) (ad : Option Addr) (kd cd : Nat) (n d : Int) (hn : Sz 1024 n) (hd : Sz 1024 d) (hd0 : d ≠ 0) (h1 : Sz 256 (Rat.divInt n d).num) (h2 : Sz 256 ((Rat.divInt n d).den : Int)) (w : World) (nn : Num w (.agg #[.bool bn, .slice an kn cn]) n) (nd : Num w (.agg #[.bool bd, .slice ad kd cd]) d) :
  Calls Tryz.prog 24 #[.agg #[.bool bn, .slice an kn cn], .agg #[.bool bd, .slice ad kd cd]] w fun e w' => (∃ v, e = .returned (.tuple #[v, .int .i64 0]) ∧ FraF w.heap.size w' v (Rat.divInt n d)) ∧ Below w.heap.size w w' := by
 have ebd := (num_len nd).2
 obtain ⟨P1, P2⟩ := Fq.parts (n := n) hd0
 have R : (0 : Int) ≤ 0 ∧ (0 : Int) < Fq.cf n d ∨ Fq.cf n d < 0 ∧ (0 : Int) ≤ 0 := (cf_in n d).imp id (fun h => h.resolve_right hd0)
 have HG := Lib.hid (fun W h g => gcd_lim (.agg #[.bool bn, .slice an kn cn]) (.agg #[.bool bd, .slice ad kd cd]) n d hn hd hd0 W h g)
 have HZ := Lib.hid (fun W h => by have := isZero_num (.agg #[.bool bd, .slice ad kd cd]) d W h; rwa [decide_eq_false hd0] at this)
 have HD1 := Lib.hid (fun ve W h g => frdivide_known (.agg #[.bool bn, .slice an kn cn]) ve n (Fq.cf n d) (Rat.divInt n d).num 0 ⟨by rw [Int.add_zero]; exact P1, R⟩ hn (cf_sz hd0 hd) (Fq.cf_ne hd0) W h g)
 have HD2 := Lib.hid (fun ve W h g => frdivide_known (.agg #[.bool bd, .slice ad kd cd]) ve d (Fq.cf n d) (Rat.divInt n d).den 0 ⟨by rw [Int.add_zero]; exact P2, R⟩ hd (cf_sz hd0 hd) (Fq.cf_ne hd0) W h g)
 have HCF := Lib.hid (fun B W s => cf_num (B := B) (W := W) (s := s) (n := n) hd0 ebd)
 have HL := Lib.hid (fun b1 a1 k1 c1 b2 a2 k2 c2 W (h : Num W (.agg #[.bool b1, .slice a1 k1 c1]) _) (g : Num W (.agg #[.bool b2, .slice a2 k2 c2]) _) => limited_ok _ _ _ _ _ _ _ _ (Rat.divInt n d).num (Rat.divInt n d).den h1 h2 W h g)
 clear ebd P1 P2 R hn hd hd0 h1 h2
 have hB := Below.refl w.heap.size w
 obtain ⟨al, xn, hN⟩ := mk hB #[.bool bn, .slice an kn cn] 24
 replace hB := hN; clear al hN
 try simp only [World.size_alloc] at xn
 obtain ⟨al, xd, hN⟩ := mk hB #[.bool bd, .slice ad kd cd] 24
 replace xn := xn.on al; replace hB := hN; clear al hN
 try simp only [World.size_alloc] at xd
 obtain ⟨al, xr, hN⟩ := mk hB #[.bool false, .slice none 0 0, .bool false, .slice none 0 0] 39
 replace xn := xn.on al; replace xd := xd.on al; replace hB := hN; clear al hN
 try simp only [World.size_alloc] at xr
 go_enter Tryz.func24, Tryz.ntmps24
 go_wp2_with fail
 refine (HG.out _ (nn.below hB (Nat.le_refl _)) (nd.below hB (Nat.le_refl _))).mono ?_
 rintro e w1 ⟨⟨ag, kg, cg, rfl, gl⟩, hb⟩
 replace xn := xn.on hb; replace xd := xd.on hb; replace xr := xr.on hb
 have hz1 := hb.size
 try simp at hz1
 replace hB := hB.trans (hb.mono hB.size); clear hb
 have GL0 := Lib.hid gl
 clear gl
 have hC := Below.refl w1.heap.size w1
 replace hC := hC.alloc hC.size (.cells #[.bool false, .slice ag kg cg] 24)
 obtain ⟨al, xg, hN⟩ := mk hB #[.bool false, .slice ag kg cg] 24
 replace xn := xn.on al; replace xd := xd.on al; replace xr := xr.on al; replace hB := hN; clear al hN
 have pn := xn.all2
 have pd := xd.all2
 have pr := xr.all4
 have pg := xg.all2
 go_wp2_with fail
 clear pn pd pr pg
 refine (HZ.out _ (nd.below hB (Nat.le_refl _))).mono ?_
 rintro e w2 ⟨rfl, hb⟩
 replace hC := hC.trans (hb.mono hC.size); replace xn := xn.on hb; replace xd := xd.on hb; replace xr := xr.on hb; replace xg := xg.on hb
 have hz2 := hb.size
 try simp at hz2
 replace hB := hB.trans (hb.mono hB.size); clear hb
 have pn := xn.all2
 have pd := xd.all2
 have pr := xr.all4
 have pg := xg.all2
 go_wp2_with fail
 clear pn pd pr pg; replace xn := xn.put_other w1.heap.size 0 (.bool bd) (by omega); replace xd := xd.put_other w1.heap.size 0 (.bool bd) (by omega); replace xr := xr.put_other w1.heap.size 0 (.bool bd) (by omega)
 replace xg : Bk _ w1.heap.size #[.bool bd, .slice ag kg cg] _ := xg.put 0 (.bool bd)
 replace hB := hB.setCell (p := ⟨w1.heap.size, 0, none⟩) (by first | omega | (simp; omega) | simp) (.bool bd); replace hC := hC.setCell (p := ⟨w1.heap.size, 0, none⟩) (Nat.le_refl _) (.bool bd)
 have gl := GL0.out.below hC
 clear GL0 hC
 have pn := xn.all2
 have pd := xd.all2
 have pr := xr.all4
 have pg := xg.all2
 clear pn pd pr pg
 refine (HD1.out _ _ (nn.below hB (Nat.le_refl _)) (HCF.out _ _ _ gl).num).mono ?_
 rintro e w3 ⟨⟨vq, vr, rfl, hq, -⟩, hb⟩
 obtain ⟨bq, aq, kq, cq, rfl⟩ := hq.num.opened
 replace xn := xn.on hb; replace xd := xd.on hb; replace xr := xr.on hb; replace xg := xg.on hb; replace gl := gl.below hb
 have hz3 := hb.size
 try simp at hz3
 replace hB := hB.trans (hb.mono hB.size); clear hb
 have pn := xn.all2
 have pd := xd.all2
 have pr := xr.all4
 have pg := xg.all2
 go_wp2_with fail
 clear pn pd pr pg; replace xd := xd.put_other w.heap.size 0 (.bool bq) (by omega); replace xr := xr.put_other w.heap.size 0 (.bool bq) (by omega); replace xg := xg.put_other w.heap.size 0 (.bool bq) (by omega)
 replace xn : Bk _ w.heap.size #[.bool bq, .slice an kn cn] _ := xn.put 0 (.bool bq)
 replace gl := gl.set1 (p := ⟨w.heap.size, 0, none⟩) (by first | omega | (simp; omega) | simp) (.bool bq); replace hq := hq.set1 (p := ⟨w.heap.size, 0, none⟩) (by first | omega | (simp; omega) | simp) (.bool bq); replace hB := hB.setCell (p := ⟨w.heap.size, 0, none⟩) (by first | omega | (simp; omega) | simp) (.bool bq); replace xd := xd.put_other w.heap.size 1 (.slice aq kq cq) (by omega); replace xr := xr.put_other w.heap.size 1 (.slice aq kq cq) (by omega); replace xg := xg.put_other w.heap.size 1 (.slice aq kq cq) (by omega)
 replace xn : Bk _ w.heap.size #[.bool bq, .slice aq kq cq] _ := xn.put 1 (.slice aq kq cq)
 replace gl := gl.set1 (p := ⟨w.heap.size, 1, none⟩) (by first | omega | (simp; omega) | simp) (.slice aq kq cq); replace hq := hq.set1 (p := ⟨w.heap.size, 1, none⟩) (by first | omega | (simp; omega) | simp) (.slice aq kq cq); replace hB := hB.setCell (p := ⟨w.heap.size, 1, none⟩) (by first | omega | (simp; omega) | simp) (.slice aq kq cq)
 have pn := xn.all2
 have pd := xd.all2
 have pr := xr.all4
 have pg := xg.all2
 clear pn pd pr pg
 refine (HD2.out _ _ (nd.below hB (Nat.le_refl _)) (HCF.out _ _ _ gl).num).mono ?_
 rintro e w4 ⟨⟨vs, vt, rfl, hs, -⟩, hb⟩
 obtain ⟨bu, au, ku, cu, rfl⟩ := hs.num.opened
 replace xn := xn.on hb; replace xd := xd.on hb; replace xr := xr.on hb; replace xg := xg.on hb; replace gl := gl.below hb; replace hq := hq.below hb
 have hz4 := hb.size
 try simp at hz4
 replace hB := hB.trans (hb.mono hB.size); clear hb
 have pn := xn.all2
 have pd := xd.all2
 have pr := xr.all4
 have pg := xg.all2
 go_wp2_with fail
 clear pn pd pr pg; replace xn := xn.put_other (w.heap.size + 1) 0 (.bool bu) (by omega); replace xr := xr.put_other (w.heap.size + 1) 0 (.bool bu) (by omega); replace xg := xg.put_other (w.heap.size + 1) 0 (.bool bu) (by omega)
 replace xd : Bk _ (w.heap.size + 1) #[.bool bu, .slice ad kd cd] _ := xd.put 0 (.bool bu)
 replace gl := gl.set1 (p := ⟨w.heap.size + 1, 0, none⟩) (by first | omega | (simp; omega) | simp) (.bool bu); replace hq := hq.set1 (p := ⟨w.heap.size + 1, 0, none⟩) (by first | omega | (simp; omega) | simp) (.bool bu); replace hs := hs.set1 (p := ⟨w.heap.size + 1, 0, none⟩) (by first | omega | (simp; omega) | simp) (.bool bu); replace hB := hB.setCell (p := ⟨w.heap.size + 1, 0, none⟩) (by first | omega | (simp; omega) | simp) (.bool bu); replace xn := xn.put_other (w.heap.size + 1) 1 (.slice au ku cu) (by omega); replace xr := xr.put_other (w.heap.size + 1) 1 (.slice au ku cu) (by omega); replace xg := xg.put_other (w.heap.size + 1) 1 (.slice au ku cu) (by omega)
 replace xd : Bk _ (w.heap.size + 1) #[.bool bu, .slice au ku cu] _ := xd.put 1 (.slice au ku cu)
 replace gl := gl.set1 (p := ⟨w.heap.size + 1, 1, none⟩) (by first | omega | (simp; omega) | simp) (.slice au ku cu); replace hq := hq.set1 (p := ⟨w.heap.size + 1, 1, none⟩) (by first | omega | (simp; omega) | simp) (.slice au ku cu); replace hs := hs.set1 (p := ⟨w.heap.size + 1, 1, none⟩) (by first | omega | (simp; omega) | simp) (.slice au ku cu); replace hB := hB.setCell (p := ⟨w.heap.size + 1, 1, none⟩) (by first | omega | (simp; omega) | simp) (.slice au ku cu)
 have pn := xn.all2
 have pd := xd.all2
 have pr := xr.all4
 have pg := xg.all2
 clear pn pd pr pg
 refine (HL.out _ _ _ _ _ _ _ _ _ hq.num hs.num).mono ?_
 rintro e w5 ⟨rfl, hb⟩
 replace xn := xn.on hb; replace xd := xd.on hb; replace xr := xr.on hb; replace xg := xg.on hb; replace gl := gl.below hb; replace hq := hq.below hb; replace hs := hs.below hb
 have hz5 := hb.size
 try simp at hz5
 replace hB := hB.trans (hb.mono hB.size); clear hb
 have pn := xn.all2
 have pd := xd.all2
 have pr := xr.all4
 have pg := xg.all2
 go_wp2_with fail
 clear pn pd pr pg; replace xn := xn.put_other4 (w.heap.size + 1 + 1) (.bool bq) (.slice aq kq cq) (.bool bu) (.slice au ku cu) (by omega); replace xd := xd.put_other4 (w.heap.size + 1 + 1) (.bool bq) (.slice aq kq cq) (.bool bu) (.slice au ku cu) (by omega); replace xg := xg.put_other4 (w.heap.size + 1 + 1) (.bool bq) (.slice aq kq cq) (.bool bu) (.slice au ku cu) (by omega); replace xr := xr.put4 (.bool bq) (.slice aq kq cq) (.bool bu) (.slice au ku cu); replace gl := gl.set4 (w.heap.size + 1 + 1) (by first | omega | (simp; omega) | simp) (.bool bq) (.slice aq kq cq) (.bool bu) (.slice au ku cu); replace hq := hq.set4 (w.heap.size + 1 + 1) (by first | omega | (simp; omega) | simp) (.bool bq) (.slice aq kq cq) (.bool bu) (.slice au ku cu); replace hs := hs.set4 (w.heap.size + 1 + 1) (by first | omega | (simp; omega) | simp) (.bool bq) (.slice aq kq cq) (.bool bu) (.slice au ku cu); replace hB := below4 hB (w.heap.size + 1 + 1) (by first | omega | (simp; omega) | simp) (.bool bq) (.slice aq kq cq) (.bool bu) (.slice au ku cu)
 generalize ((((w5.setCell ⟨w.heap.size + 1 + 1, 0, none⟩ (.bool bq)).setCell ⟨w.heap.size + 1 + 1, 1, none⟩ (.slice aq kq cq)).setCell ⟨w.heap.size + 1 + 1, 2, none⟩ (.bool bu)).setCell ⟨w.heap.size + 1 + 1, 3, none⟩ (.slice au ku cu)) = WF at *
 have pn := xn.all2
 have pd := xd.all2
 have pr := xr.all4
 have pg := xg.all2
 exact bodyPost_ret (v := .tuple #[.agg #[.bool bq, .slice aq kq cq, .bool bu, .slice au ku cu], .int .i64 0]) (by simp [results, Tryz.results24, go_sem, pr]) rfl ⟨⟨_, rfl, fraF_of (hq.mono (by first | omega | (simp; omega))) (hs.mono (by first | omega | (simp; omega)))⟩, hB⟩
theorem Make_n (bn : Bool) (an : Option Addr) (kn cn : Nat) (bd : Bool) (ad : Option Addr) (kd cd : Nat) (n d : Int) (hn : Sz 1024 n) (hd : Sz 1024 d) (hd0 : d ≠ 0) (h1 : ¬ Sz 256 (Rat.divInt n d).num) (w : World) (nn : Num w (.agg #[.bool bn, .slice an kn cn]) n) (nd : Num w (.agg #[.bool bd, .slice ad kd cd]) d) :
  Calls Tryz.prog 24 #[.agg #[.bool bn, .slice an kn cn], .agg #[.bool bd, .slice ad kd cd]] w fun e w' => e = .returned (.tuple #[zeroF, .int .i64 3]) ∧ Below w.heap.size w w' := by
 have ebd := (num_len nd).2
 obtain ⟨P1, P2⟩ := Fq.parts (n := n) hd0
 have R : (0 : Int) ≤ 0 ∧ (0 : Int) < Fq.cf n d ∨ Fq.cf n d < 0 ∧ (0 : Int) ≤ 0 := (cf_in n d).imp id (fun h => h.resolve_right hd0)
 have HG := Lib.hid (fun W h g => gcd_lim (.agg #[.bool bn, .slice an kn cn]) (.agg #[.bool bd, .slice ad kd cd]) n d hn hd hd0 W h g)
 have HZ := Lib.hid (fun W h => by have := isZero_num (.agg #[.bool bd, .slice ad kd cd]) d W h; rwa [decide_eq_false hd0] at this)
 have HD1 := Lib.hid (fun ve W h g => frdivide_known (.agg #[.bool bn, .slice an kn cn]) ve n (Fq.cf n d) (Rat.divInt n d).num 0 ⟨by rw [Int.add_zero]; exact P1, R⟩ hn (cf_sz hd0 hd) (Fq.cf_ne hd0) W h g)
 have HD2 := Lib.hid (fun ve W h g => frdivide_known (.agg #[.bool bd, .slice ad kd cd]) ve d (Fq.cf n d) (Rat.divInt n d).den 0 ⟨by rw [Int.add_zero]; exact P2, R⟩ hd (cf_sz hd0 hd) (Fq.cf_ne hd0) W h g)
 have HCF := Lib.hid (fun B W s => cf_num (B := B) (W := W) (s := s) (n := n) hd0 ebd)
 have HL := Lib.hid (fun b1 a1 k1 c1 b2 a2 k2 c2 W (h : Num W (.agg #[.bool b1, .slice a1 k1 c1]) _) (g : Num W (.agg #[.bool b2, .slice a2 k2 c2]) _) => limited_n _ _ _ _ _ _ _ _ (Rat.divInt n d).num (Rat.divInt n d).den h1 W h g)
 clear ebd P1 P2 R hn hd hd0 h1
 have hB := Below.refl w.heap.size w
 obtain ⟨al, xn, hN⟩ := mk hB #[.bool bn, .slice an kn cn] 24
 replace hB := hN; clear al hN
 try simp only [World.size_alloc] at xn
 obtain ⟨al, xd, hN⟩ := mk hB #[.bool bd, .slice ad kd cd] 24
 replace xn := xn.on al; replace hB := hN; clear al hN
 try simp only [World.size_alloc] at xd
 obtain ⟨al, xr, hN⟩ := mk hB #[.bool false, .slice none 0 0, .bool false, .slice none 0 0] 39
 replace xn := xn.on al; replace xd := xd.on al; replace hB := hN; clear al hN
 try simp only [World.size_alloc] at xr
 go_enter Tryz.func24, Tryz.ntmps24
 go_wp2_with fail
 refine (HG.out _ (nn.below hB (Nat.le_refl _)) (nd.below hB (Nat.le_refl _))).mono ?_
 rintro e w1 ⟨⟨ag, kg, cg, rfl, gl⟩, hb⟩
 replace xn := xn.on hb; replace xd := xd.on hb; replace xr := xr.on hb
 have hz1 := hb.size
 try simp at hz1
 replace hB := hB.trans (hb.mono hB.size); clear hb
 have GL0 := Lib.hid gl
 clear gl
 have hC := Below.refl w1.heap.size w1
 replace hC := hC.alloc hC.size (.cells #[.bool false, .slice ag kg cg] 24)
 obtain ⟨al, xg, hN⟩ := mk hB #[.bool false, .slice ag kg cg] 24
 replace xn := xn.on al; replace xd := xd.on al; replace xr := xr.on al; replace hB := hN; clear al hN
 have pn := xn.all2
 have pd := xd.all2
 have pr := xr.all4
 have pg := xg.all2
 go_wp2_with fail
 clear pn pd pr pg
 refine (HZ.out _ (nd.below hB (Nat.le_refl _))).mono ?_
 rintro e w2 ⟨rfl, hb⟩
 replace hC := hC.trans (hb.mono hC.size); replace xn := xn.on hb; replace xd := xd.on hb; replace xr := xr.on hb; replace xg := xg.on hb
 have hz2 := hb.size
 try simp at hz2
 replace hB := hB.trans (hb.mono hB.size); clear hb
 have pn := xn.all2
 have pd := xd.all2
 have pr := xr.all4
 have pg := xg.all2
 go_wp2_with fail
 clear pn pd pr pg; replace xn := xn.put_other w1.heap.size 0 (.bool bd) (by omega); replace xd := xd.put_other w1.heap.size 0 (.bool bd) (by omega); replace xr := xr.put_other w1.heap.size 0 (.bool bd) (by omega)
 replace xg : Bk _ w1.heap.size #[.bool bd, .slice ag kg cg] _ := xg.put 0 (.bool bd)
 replace hB := hB.setCell (p := ⟨w1.heap.size, 0, none⟩) (by first | omega | (simp; omega) | simp) (.bool bd); replace hC := hC.setCell (p := ⟨w1.heap.size, 0, none⟩) (Nat.le_refl _) (.bool bd)
 have gl := GL0.out.below hC
 clear GL0 hC
 have pn := xn.all2
 have pd := xd.all2
 have pr := xr.all4
 have pg := xg.all2
 clear pn pd pr pg
 refine (HD1.out _ _ (nn.below hB (Nat.le_refl _)) (HCF.out _ _ _ gl).num).mono ?_
 rintro e w3 ⟨⟨vq, vr, rfl, hq, -⟩, hb⟩
 obtain ⟨bq, aq, kq, cq, rfl⟩ := hq.num.opened
 replace xn := xn.on hb; replace xd := xd.on hb; replace xr := xr.on hb; replace xg := xg.on hb; replace gl := gl.below hb
 have hz3 := hb.size
 try simp at hz3
 replace hB := hB.trans (hb.mono hB.size); clear hb
 have pn := xn.all2
 have pd := xd.all2
 have pr := xr.all4
 have pg := xg.all2
 go_wp2_with fail
 clear pn pd pr pg; replace xd := xd.put_other w.heap.size 0 (.bool bq) (by omega); replace xr := xr.put_other w.heap.size 0 (.bool bq) (by omega); replace xg := xg.put_other w.heap.size 0 (.bool bq) (by omega)
 replace xn : Bk _ w.heap.size #[.bool bq, .slice an kn cn] _ := xn.put 0 (.bool bq)
 replace gl := gl.set1 (p := ⟨w.heap.size, 0, none⟩) (by first | omega | (simp; omega) | simp) (.bool bq); replace hq := hq.set1 (p := ⟨w.heap.size, 0, none⟩) (by first | omega | (simp; omega) | simp) (.bool bq); replace hB := hB.setCell (p := ⟨w.heap.size, 0, none⟩) (by first | omega | (simp; omega) | simp) (.bool bq); replace xd := xd.put_other w.heap.size 1 (.slice aq kq cq) (by omega); replace xr := xr.put_other w.heap.size 1 (.slice aq kq cq) (by omega); replace xg := xg.put_other w.heap.size 1 (.slice aq kq cq) (by omega)
 replace xn : Bk _ w.heap.size #[.bool bq, .slice aq kq cq] _ := xn.put 1 (.slice aq kq cq)
 replace gl := gl.set1 (p := ⟨w.heap.size, 1, none⟩) (by first | omega | (simp; omega) | simp) (.slice aq kq cq); replace hq := hq.set1 (p := ⟨w.heap.size, 1, none⟩) (by first | omega | (simp; omega) | simp) (.slice aq kq cq); replace hB := hB.setCell (p := ⟨w.heap.size, 1, none⟩) (by first | omega | (simp; omega) | simp) (.slice aq kq cq)
 have pn := xn.all2
 have pd := xd.all2
 have pr := xr.all4
 have pg := xg.all2
 clear pn pd pr pg
 refine (HD2.out _ _ (nd.below hB (Nat.le_refl _)) (HCF.out _ _ _ gl).num).mono ?_
 rintro e w4 ⟨⟨vs, vt, rfl, hs, -⟩, hb⟩
 obtain ⟨bu, au, ku, cu, rfl⟩ := hs.num.opened
 replace xn := xn.on hb; replace xd := xd.on hb; replace xr := xr.on hb; replace xg := xg.on hb; replace gl := gl.below hb; replace hq := hq.below hb
 have hz4 := hb.size
 try simp at hz4
 replace hB := hB.trans (hb.mono hB.size); clear hb
 have pn := xn.all2
 have pd := xd.all2
 have pr := xr.all4
 have pg := xg.all2
 go_wp2_with fail
 clear pn pd pr pg; replace xn := xn.put_other (w.heap.size + 1) 0 (.bool bu) (by omega); replace xr := xr.put_other (w.heap.size + 1) 0 (.bool bu) (by omega); replace xg := xg.put_other (w.heap.size + 1) 0 (.bool bu) (by omega)
 replace xd : Bk _ (w.heap.size + 1) #[.bool bu, .slice ad kd cd] _ := xd.put 0 (.bool bu)
 replace gl := gl.set1 (p := ⟨w.heap.size + 1, 0, none⟩) (by first | omega | (simp; omega) | simp) (.bool bu); replace hq := hq.set1 (p := ⟨w.heap.size + 1, 0, none⟩) (by first | omega | (simp; omega) | simp) (.bool bu); replace hs := hs.set1 (p := ⟨w.heap.size + 1, 0, none⟩) (by first | omega | (simp; omega) | simp) (.bool bu); replace hB := hB.setCell (p := ⟨w.heap.size + 1, 0, none⟩) (by first | omega | (simp; omega) | simp) (.bool bu); replace xn := xn.put_other (w.heap.size + 1) 1 (.slice au ku cu) (by omega); replace xr := xr.put_other (w.heap.size + 1) 1 (.slice au ku cu) (by omega); replace xg := xg.put_other (w.heap.size + 1) 1 (.slice au ku cu) (by omega)
 replace xd : Bk _ (w.heap.size + 1) #[.bool bu, .slice au ku cu] _ := xd.put 1 (.slice au ku cu)
 replace gl := gl.set1 (p := ⟨w.heap.size + 1, 1, none⟩) (by first | omega | (simp; omega) | simp) (.slice au ku cu); replace hq := hq.set1 (p := ⟨w.heap.size + 1, 1, none⟩) (by first | omega | (simp; omega) | simp) (.slice au ku cu); replace hs := hs.set1 (p := ⟨w.heap.size + 1, 1, none⟩) (by first | omega | (simp; omega) | simp) (.slice au ku cu); replace hB := hB.setCell (p := ⟨w.heap.size + 1, 1, none⟩) (by first | omega | (simp; omega) | simp) (.slice au ku cu)
 have pn := xn.all2
 have pd := xd.all2
 have pr := xr.all4
 have pg := xg.all2
 clear pn pd pr pg
 refine (HL.out _ _ _ _ _ _ _ _ _ hq.num hs.num).mono ?_
 rintro e w5 ⟨rfl, hb⟩
 replace xn := xn.on hb; replace xd := xd.on hb; replace xr := xr.on hb; replace xg := xg.on hb; replace gl := gl.below hb; replace hq := hq.below hb; replace hs := hs.below hb
 have hz5 := hb.size
 try simp at hz5
 replace hB := hB.trans (hb.mono hB.size); clear hb
 have pn := xn.all2
 have pd := xd.all2
 have pr := xr.all4
 have pg := xg.all2
 go_wp2_with fail
 clear pn pd pr pg; replace xn := xn.put_other4 (w.heap.size + 1 + 1) (.bool false) (.slice none 0 0) (.bool false) (.slice none 0 0) (by omega); replace xd := xd.put_other4 (w.heap.size + 1 + 1) (.bool false) (.slice none 0 0) (.bool false) (.slice none 0 0) (by omega); replace xg := xg.put_other4 (w.heap.size + 1 + 1) (.bool false) (.slice none 0 0) (.bool false) (.slice none 0 0) (by omega); replace xr := xr.put4 (.bool false) (.slice none 0 0) (.bool false) (.slice none 0 0); replace gl := gl.set4 (w.heap.size + 1 + 1) (by first | omega | (simp; omega) | simp) (.bool false) (.slice none 0 0) (.bool false) (.slice none 0 0); replace hq := hq.set4 (w.heap.size + 1 + 1) (by first | omega | (simp; omega) | simp) (.bool false) (.slice none 0 0) (.bool false) (.slice none 0 0); replace hs := hs.set4 (w.heap.size + 1 + 1) (by first | omega | (simp; omega) | simp) (.bool false) (.slice none 0 0) (.bool false) (.slice none 0 0); replace hB := below4 hB (w.heap.size + 1 + 1) (by first | omega | (simp; omega) | simp) (.bool false) (.slice none 0 0) (.bool false) (.slice none 0 0)
 generalize ((((w5.setCell ⟨w.heap.size + 1 + 1, 0, none⟩ (.bool false)).setCell ⟨w.heap.size + 1 + 1, 1, none⟩ (.slice none 0 0)).setCell ⟨w.heap.size + 1 + 1, 2, none⟩ (.bool false)).setCell ⟨w.heap.size + 1 + 1, 3, none⟩ (.slice none 0 0)) = WF at *
 have pn := xn.all2
 have pd := xd.all2
 have pr := xr.all4
 have pg := xg.all2
 exact bodyPost_ret (v := .tuple #[zeroF, .int .i64 3]) (by simp [results, Tryz.results24, go_sem, pr]) rfl ⟨rfl, hB⟩
theorem Make_d (bn : Bool) (an : Option Addr) (kn cn : Nat) (bd : Bool) (ad : Option Addr) (kd cd : Nat) (n d : Int) (hn : Sz 1024 n) (hd : Sz 1024 d) (hd0 : d ≠ 0) (h1 : Sz 256 (Rat.divInt n d).num) (h2 : ¬ Sz 256 ((Rat.divInt n d).den : Int)) (w : World) (nn : Num w (.agg #[.bool bn, .slice an kn cn]) n) (nd : Num w (.agg #[.bool bd, .slice ad kd cd]) d) :
  Calls Tryz.prog 24 #[.agg #[.bool bn, .slice an kn cn], .agg #[.bool bd, .slice ad kd cd]] w fun e w' => e = .returned (.tuple #[zeroF, .int .i64 3]) ∧ Below w.heap.size w w' := by
 have ebd := (num_len nd).2
 obtain ⟨P1, P2⟩ := Fq.parts (n := n) hd0
 have R : (0 : Int) ≤ 0 ∧ (0 : Int) < Fq.cf n d ∨ Fq.cf n d < 0 ∧ (0 : Int) ≤ 0 := (cf_in n d).imp id (fun h => h.resolve_right hd0)
 have HG := Lib.hid (fun W h g => gcd_lim (.agg #[.bool bn, .slice an kn cn]) (.agg #[.bool bd, .slice ad kd cd]) n d hn hd hd0 W h g)
 have HZ := Lib.hid (fun W h => by have := isZero_num (.agg #[.bool bd, .slice ad kd cd]) d W h; rwa [decide_eq_false hd0] at this)
 have HD1 := Lib.hid (fun ve W h g => frdivide_known (.agg #[.bool bn, .slice an kn cn]) ve n (Fq.cf n d) (Rat.divInt n d).num 0 ⟨by rw [Int.add_zero]; exact P1, R⟩ hn (cf_sz hd0 hd) (Fq.cf_ne hd0) W h g)
 have HD2 := Lib.hid (fun ve W h g => frdivide_known (.agg #[.bool bd, .slice ad kd cd]) ve d (Fq.cf n d) (Rat.divInt n d).den 0 ⟨by rw [Int.add_zero]; exact P2, R⟩ hd (cf_sz hd0 hd) (Fq.cf_ne hd0) W h g)
 have HCF := Lib.hid (fun B W s => cf_num (B := B) (W := W) (s := s) (n := n) hd0 ebd)
 have HL := Lib.hid (fun b1 a1 k1 c1 b2 a2 k2 c2 W (h : Num W (.agg #[.bool b1, .slice a1 k1 c1]) _) (g : Num W (.agg #[.bool b2, .slice a2 k2 c2]) _) => limited_d _ _ _ _ _ _ _ _ (Rat.divInt n d).num (Rat.divInt n d).den h1 h2 W h g)
 clear ebd P1 P2 R hn hd hd0 h1 h2
 have hB := Below.refl w.heap.size w
 obtain ⟨al, xn, hN⟩ := mk hB #[.bool bn, .slice an kn cn] 24
 replace hB := hN; clear al hN
 try simp only [World.size_alloc] at xn
 obtain ⟨al, xd, hN⟩ := mk hB #[.bool bd, .slice ad kd cd] 24
 replace xn := xn.on al; replace hB := hN; clear al hN
 try simp only [World.size_alloc] at xd
 obtain ⟨al, xr, hN⟩ := mk hB #[.bool false, .slice none 0 0, .bool false, .slice none 0 0] 39
 replace xn := xn.on al; replace xd := xd.on al; replace hB := hN; clear al hN
 try simp only [World.size_alloc] at xr
 go_enter Tryz.func24, Tryz.ntmps24
 go_wp2_with fail
 refine (HG.out _ (nn.below hB (Nat.le_refl _)) (nd.below hB (Nat.le_refl _))).mono ?_
 rintro e w1 ⟨⟨ag, kg, cg, rfl, gl⟩, hb⟩
 replace xn := xn.on hb; replace xd := xd.on hb; replace xr := xr.on hb
 have hz1 := hb.size
 try simp at hz1
 replace hB := hB.trans (hb.mono hB.size); clear hb
 have GL0 := Lib.hid gl
 clear gl
 have hC := Below.refl w1.heap.size w1
 replace hC := hC.alloc hC.size (.cells #[.bool false, .slice ag kg cg] 24)
 obtain ⟨al, xg, hN⟩ := mk hB #[.bool false, .slice ag kg cg] 24
 replace xn := xn.on al; replace xd := xd.on al; replace xr := xr.on al; replace hB := hN; clear al hN
 have pn := xn.all2
 have pd := xd.all2
 have pr := xr.all4
 have pg := xg.all2
 go_wp2_with fail
 clear pn pd pr pg
 refine (HZ.out _ (nd.below hB (Nat.le_refl _))).mono ?_
 rintro e w2 ⟨rfl, hb⟩
 replace hC := hC.trans (hb.mono hC.size); replace xn := xn.on hb; replace xd := xd.on hb; replace xr := xr.on hb; replace xg := xg.on hb
 have hz2 := hb.size
 try simp at hz2
 replace hB := hB.trans (hb.mono hB.size); clear hb
 have pn := xn.all2
 have pd := xd.all2
 have pr := xr.all4
 have pg := xg.all2
 go_wp2_with fail
 clear pn pd pr pg; replace xn := xn.put_other w1.heap.size 0 (.bool bd) (by omega); replace xd := xd.put_other w1.heap.size 0 (.bool bd) (by omega); replace xr := xr.put_other w1.heap.size 0 (.bool bd) (by omega)
 replace xg : Bk _ w1.heap.size #[.bool bd, .slice ag kg cg] _ := xg.put 0 (.bool bd)
 replace hB := hB.setCell (p := ⟨w1.heap.size, 0, none⟩) (by first | omega | (simp; omega) | simp) (.bool bd); replace hC := hC.setCell (p := ⟨w1.heap.size, 0, none⟩) (Nat.le_refl _) (.bool bd)
 have gl := GL0.out.below hC
 clear GL0 hC
 have pn := xn.all2
 have pd := xd.all2
 have pr := xr.all4
 have pg := xg.all2
 clear pn pd pr pg
 refine (HD1.out _ _ (nn.below hB (Nat.le_refl _)) (HCF.out _ _ _ gl).num).mono ?_
 rintro e w3 ⟨⟨vq, vr, rfl, hq, -⟩, hb⟩
 obtain ⟨bq, aq, kq, cq, rfl⟩ := hq.num.opened
 replace xn := xn.on hb; replace xd := xd.on hb; replace xr := xr.on hb; replace xg := xg.on hb; replace gl := gl.below hb
 have hz3 := hb.size
 try simp at hz3
 replace hB := hB.trans (hb.mono hB.size); clear hb
 have pn := xn.all2
 have pd := xd.all2
 have pr := xr.all4
 have pg := xg.all2
 go_wp2_with fail
 clear pn pd pr pg; replace xd := xd.put_other w.heap.size 0 (.bool bq) (by omega); replace xr := xr.put_other w.heap.size 0 (.bool bq) (by omega); replace xg := xg.put_other w.heap.size 0 (.bool bq) (by omega)
 replace xn : Bk _ w.heap.size #[.bool bq, .slice an kn cn] _ := xn.put 0 (.bool bq)
 replace gl := gl.set1 (p := ⟨w.heap.size, 0, none⟩) (by first | omega | (simp; omega) | simp) (.bool bq); replace hq := hq.set1 (p := ⟨w.heap.size, 0, none⟩) (by first | omega | (simp; omega) | simp) (.bool bq); replace hB := hB.setCell (p := ⟨w.heap.size, 0, none⟩) (by first | omega | (simp; omega) | simp) (.bool bq); replace xd := xd.put_other w.heap.size 1 (.slice aq kq cq) (by omega); replace xr := xr.put_other w.heap.size 1 (.slice aq kq cq) (by omega); replace xg := xg.put_other w.heap.size 1 (.slice aq kq cq) (by omega)
 replace xn : Bk _ w.heap.size #[.bool bq, .slice aq kq cq] _ := xn.put 1 (.slice aq kq cq)
 replace gl := gl.set1 (p := ⟨w.heap.size, 1, none⟩) (by first | omega | (simp; omega) | simp) (.slice aq kq cq); replace hq := hq.set1 (p := ⟨w.heap.size, 1, none⟩) (by first | omega | (simp; omega) | simp) (.slice aq kq cq); replace hB := hB.setCell (p := ⟨w.heap.size, 1, none⟩) (by first | omega | (simp; omega) | simp) (.slice aq kq cq)
 have pn := xn.all2
 have pd := xd.all2
 have pr := xr.all4
 have pg := xg.all2
 clear pn pd pr pg
 refine (HD2.out _ _ (nd.below hB (Nat.le_refl _)) (HCF.out _ _ _ gl).num).mono ?_
 rintro e w4 ⟨⟨vs, vt, rfl, hs, -⟩, hb⟩
 obtain ⟨bu, au, ku, cu, rfl⟩ := hs.num.opened
 replace xn := xn.on hb; replace xd := xd.on hb; replace xr := xr.on hb; replace xg := xg.on hb; replace gl := gl.below hb; replace hq := hq.below hb
 have hz4 := hb.size
 try simp at hz4
 replace hB := hB.trans (hb.mono hB.size); clear hb
 have pn := xn.all2
 have pd := xd.all2
 have pr := xr.all4
 have pg := xg.all2
 go_wp2_with fail
 clear pn pd pr pg; replace xn := xn.put_other (w.heap.size + 1) 0 (.bool bu) (by omega); replace xr := xr.put_other (w.heap.size + 1) 0 (.bool bu) (by omega); replace xg := xg.put_other (w.heap.size + 1) 0 (.bool bu) (by omega)
 replace xd : Bk _ (w.heap.size + 1) #[.bool bu, .slice ad kd cd] _ := xd.put 0 (.bool bu)
 replace gl := gl.set1 (p := ⟨w.heap.size + 1, 0, none⟩) (by first | omega | (simp; omega) | simp) (.bool bu); replace hq := hq.set1 (p := ⟨w.heap.size + 1, 0, none⟩) (by first | omega | (simp; omega) | simp) (.bool bu); replace hs := hs.set1 (p := ⟨w.heap.size + 1, 0, none⟩) (by first | omega | (simp; omega) | simp) (.bool bu); replace hB := hB.setCell (p := ⟨w.heap.size + 1, 0, none⟩) (by first | omega | (simp; omega) | simp) (.bool bu); replace xn := xn.put_other (w.heap.size + 1) 1 (.slice au ku cu) (by omega); replace xr := xr.put_other (w.heap.size + 1) 1 (.slice au ku cu) (by omega); replace xg := xg.put_other (w.heap.size + 1) 1 (.slice au ku cu) (by omega)
 replace xd : Bk _ (w.heap.size + 1) #[.bool bu, .slice au ku cu] _ := xd.put 1 (.slice au ku cu)
 replace gl := gl.set1 (p := ⟨w.heap.size + 1, 1, none⟩) (by first | omega | (simp; omega) | simp) (.slice au ku cu); replace hq := hq.set1 (p := ⟨w.heap.size + 1, 1, none⟩) (by first | omega | (simp; omega) | simp) (.slice au ku cu); replace hs := hs.set1 (p := ⟨w.heap.size + 1, 1, none⟩) (by first | omega | (simp; omega) | simp) (.slice au ku cu); replace hB := hB.setCell (p := ⟨w.heap.size + 1, 1, none⟩) (by first | omega | (simp; omega) | simp) (.slice au ku cu)
 have pn := xn.all2
 have pd := xd.all2
 have pr := xr.all4
 have pg := xg.all2
 clear pn pd pr pg
 refine (HL.out _ _ _ _ _ _ _ _ _ hq.num hs.num).mono ?_
 rintro e w5 ⟨rfl, hb⟩
 replace xn := xn.on hb; replace xd := xd.on hb; replace xr := xr.on hb; replace xg := xg.on hb; replace gl := gl.below hb; replace hq := hq.below hb; replace hs := hs.below hb
 have hz5 := hb.size
 try simp at hz5
 replace hB := hB.trans (hb.mono hB.size); clear hb
 have pn := xn.all2
 have pd := xd.all2
 have pr := xr.all4
 have pg := xg.all2
 go_wp2_with fail
 clear pn pd pr pg; replace xn := xn.put_other4 (w.heap.size + 1 + 1) (.bool false) (.slice none 0 0) (.bool false) (.slice none 0 0) (by omega); replace xd := xd.put_other4 (w.heap.size + 1 + 1) (.bool false) (.slice none 0 0) (.bool false) (.slice none 0 0) (by omega); replace xg := xg.put_other4 (w.heap.size + 1 + 1) (.bool false) (.slice none 0 0) (.bool false) (.slice none 0 0) (by omega); replace xr := xr.put4 (.bool false) (.slice none 0 0) (.bool false) (.slice none 0 0); replace gl := gl.set4 (w.heap.size + 1 + 1) (by first | omega | (simp; omega) | simp) (.bool false) (.slice none 0 0) (.bool false) (.slice none 0 0); replace hq := hq.set4 (w.heap.size + 1 + 1) (by first | omega | (simp; omega) | simp) (.bool false) (.slice none 0 0) (.bool false) (.slice none 0 0); replace hs := hs.set4 (w.heap.size + 1 + 1) (by first | omega | (simp; omega) | simp) (.bool false) (.slice none 0 0) (.bool false) (.slice none 0 0); replace hB := below4 hB (w.heap.size + 1 + 1) (by first | omega | (simp; omega) | simp) (.bool false) (.slice none 0 0) (.bool false) (.slice none 0 0)
 generalize ((((w5.setCell ⟨w.heap.size + 1 + 1, 0, none⟩ (.bool false)).setCell ⟨w.heap.size + 1 + 1, 1, none⟩ (.slice none 0 0)).setCell ⟨w.heap.size + 1 + 1, 2, none⟩ (.bool false)).setCell ⟨w.heap.size + 1 + 1, 3, none⟩ (.slice none 0 0)) = WF at *
 have pn := xn.all2
 have pd := xd.all2
 have pr := xr.all4
 have pg := xg.all2
 exact bodyPost_ret (v := .tuple #[zeroF, .int .i64 3]) (by simp [results, Tryz.results24, go_sem, pr]) rfl ⟨rfl, hB⟩
end Go.Proofs.YtmbcnfogjncdaaaGreat
