/- A part of the proofs about fractions. -/
import Derived.ChangeSlices
import Derived.Lib.SmallJoins
import Derived.Outline
import Derived.RegionTactic
import Derived.SizedLaws
import Derived.Test.YtmbcnfogjncdaaaGreatQFl1
import Derived.Test.YtmbcnfogjncdaaaGreatQFl10
import Derived.Test.YtmbcnfogjncdaaaGreatQFl11
import Derived.Test.YtmbcnfogjncdaaaGreatQFl13
import Derived.Test.YtmbcnfogjncdaaaGreatQFl9
set_option maxRecDepth 100000
set_option maxHeartbeats 2000000
namespace Go.Proofs.YtmbcnfogjncdaaaGreat
open Go.RowKit Wh
def Sz (n : Nat) (z : Int) : Prop := (dig z.natAbs).length ≤ n
theorem Sz.lt {n : Nat} {z : Int} (h : Sz n z) : z.natAbs < 65536 ^ n := (length_dig_le _ _).1 h
theorem Sz.of_lt {n : Nat} {z : Int} (h : z.natAbs < 65536 ^ n) : Sz n z := (length_dig_le _ _).2 h
theorem Sz.len {n : Nat} {z : Int} (h : Sz n z) (hn : n ≤ 1024) : (dig z.natAbs).length ≤ 1024 := Nat.le_trans h hn
theorem Sz.len2 {n : Nat} {z : Int} (h : Sz n z) : (dig z.natAbs).length ≤ n := h
theorem Sz.mono {n m : Nat} {z : Int} (h : Sz n z) (hn : n ≤ m) : Sz m z := Nat.le_trans h hn
theorem Sz.neg {n : Nat} {z : Int} (h : Sz n z) : Sz n (-z) := by unfold Sz; rw [Int.natAbs_neg]; exact h
theorem Sz.add {n m : Nat} {a b : Int} (h : Sz n a) (g : Sz m b) : Sz (max n m + 1) (a + b) := by
 refine Sz.of_lt ?_
 have h1 := (h.mono (Nat.le_max_left n m)).lt
 have h2 := (g.mono (Nat.le_max_right n m)).lt
 rw [Nat.pow_succ]
 have := Int.natAbs_add_le a b
 omega
theorem Sz.mul {n m : Nat} {a b : Int} (h : Sz n a) (g : Sz m b) : Sz (n + m) (a * b) := by
 refine Sz.of_lt ?_
 rw [Int.natAbs_mul, Nat.pow_add]
 exact Nat.lt_of_le_of_lt (Nat.mul_le_mul_left _ (Nat.le_of_lt g.lt)) (Nat.mul_lt_mul_of_pos_right h.lt (Nat.pow_pos (by decide)))
theorem Sz.small {z : Int} (h : z.natAbs < 65536) : Sz 1 z := Sz.of_lt (by simpa using h)
theorem num_of_vld {W : World} {b : Bool} {s : Value} {l : List Nat} (hv : vld b l = true) (hl : Lim W s l) (hm : Lm l) : ∃ z : Int, b = decide (z < 0) ∧ l = dig z.natAbs ∧ Num W (.agg #[.bool b, s]) z := by
 have hd : l = dig (val l) := by
  refine (dig_val hm fun hne e => ?_).symm
  unfold vld at hv
  rw [if_neg hne] at hv
  simp only [Bool.and_eq_true, decide_eq_true_eq] at hv
  refine hv.2 ?_
  rw [List.getLast_eq_getElem] at e
  rw [getD_lt_length (by have := List.length_pos_iff.2 hne; omega), e]
 have h0 : l = [] → b = false := fun e => by unfold vld at hv; rw [if_pos e] at hv; simpa using hv
 have e0 : l = [] ↔ val l = 0 := by
  constructor
  · intro e; rw [e]; rfl
  · intro e; rw [hd, e, dig_zero]
 cases b with
 | false =>
  refine ⟨(val l : Int), ?_, by rw [Int.natAbs_natCast]; exact hd, s, ?_, by rw [Int.natAbs_natCast, ← hd]; exact hl⟩ <;> simp
 | true =>
  have hp : val l ≠ 0 := fun e => by have := h0 (e0.2 e); simp at this
  have e1 : decide (-(val l : Int) < 0) = true := decide_eq_true (by omega)
  exact ⟨-(val l : Int), e1.symm, by rw [Int.natAbs_neg, Int.natAbs_natCast]; exact hd, s, by rw [e1], by rw [Int.natAbs_neg, Int.natAbs_natCast, ← hd]; exact hl⟩
theorem lim_len {W : World} {a : Option Addr} {k c : Nat} {l : List Nat} (h : Lim W (.slice a k c) l) : k = l.length := by
 obtain ⟨a', c', e, -⟩ := h; injection e
end Go.Proofs.YtmbcnfogjncdaaaGreat
namespace Fq
theorem divInt_of {n d n' d' e : Int} (hd : d ≠ 0) (hn : n = n' * e) (hd' : d = d' * e) : Rat.divInt n d = Rat.divInt n' d' := by
 have h1 : d' ≠ 0 := fun h => hd (by rw [hd', h, Int.zero_mul])
 rw [Rat.divInt_eq_divInt_iff hd h1, hn, hd']
 rw [Int.mul_assoc, Int.mul_comm e d']
theorem num_den_of {n d : Int} (hd : 0 < d) (hg : Nat.gcd n.natAbs d.natAbs = 1) : (Rat.divInt n d).num = n ∧ ((Rat.divInt n d).den : Int) = d := by
 have h0 : d.natAbs ≠ 0 := by omega
 have e : Rat.divInt n d = ⟨n, d.natAbs, h0, hg⟩ := by
  rw [Rat.mk_eq_divInt]
  congr 1
  omega
 rw [e]
 exact ⟨rfl, by simp; omega⟩
theorem made {n d n' d' e : Int} (hd : d ≠ 0) (hn : n = n' * e) (hd' : d = d' * e) (hp : 0 < d') (hg : Nat.gcd n'.natAbs d'.natAbs = 1) : (Rat.divInt n d).num = n' ∧ ((Rat.divInt n d).den : Int) = d' := by
 rw [divInt_of hd hn hd']; exact num_den_of hp hg
theorem den_pos (q : Rat) : 0 < (q.den : Int) := by have := q.den_pos; omega
theorem add_eq (p q : Rat) : p + q = Rat.divInt (p.num * q.den + q.num * p.den) (p.den * q.den) := by
 have h1 := den_pos p; have h2 := den_pos q
 rw [← Rat.divInt_add_divInt _ _ (by omega) (by omega), Rat.num_divInt_den, Rat.num_divInt_den]
theorem mul_eq (p q : Rat) : p * q = Rat.divInt (p.num * q.num) (p.den * q.den) := by
 rw [← Rat.divInt_mul_divInt, Rat.num_divInt_den, Rat.num_divInt_den]
theorem div_eq (p q : Rat) : p / q = Rat.divInt (p.num * q.den) (p.den * q.num) := by
 rw [Rat.div_def, ← Rat.num_divInt_den q, Rat.inv_divInt, ← Rat.num_divInt_den p, Rat.divInt_mul_divInt]
 simp
theorem ext {p q : Rat} (h1 : p.num = q.num) (h2 : p.den = q.den) : p = q := Rat.ext h1 h2
theorem gcd_one (q : Rat) : Nat.gcd q.num.natAbs q.den = 1 := q.reduced
theorem num_zero (q : Rat) : q.num = 0 ↔ q = 0 := Rat.num_eq_zero
def cf (n d : Int) : Int := d.sign * (Nat.gcd n.natAbs d.natAbs : Nat)
theorem cf_pos {n d : Int} (hd : d ≠ 0) : 0 < Nat.gcd n.natAbs d.natAbs := Nat.gcd_pos_of_pos_right _ (by omega)
theorem cf_ne {n d : Int} (hd : d ≠ 0) : cf n d ≠ 0 := by
 have := cf_pos (n := n) hd
 unfold cf
 intro h
 rcases Int.mul_eq_zero.1 h with h | h
 · exact hd (Int.sign_eq_zero_iff_zero.1 h)
 · omega
theorem cf_neg {n d : Int} (hd : d ≠ 0) : cf n d < 0 ↔ d < 0 := by
 have := cf_pos (n := n) hd
 unfold cf
 rcases Int.lt_or_gt_of_ne hd with h | h
 · rw [Int.sign_eq_neg_one_of_neg h]; omega
 · rw [Int.sign_eq_one_of_pos h]; omega
theorem cf_abs {n d : Int} (hd : d ≠ 0) : (cf n d).natAbs = Nat.gcd n.natAbs d.natAbs := by
 unfold cf
 rw [Int.natAbs_mul, Int.natAbs_sign_of_ne_zero hd]; simp
theorem sgn_sq {d : Int} (hd : d ≠ 0) : d.sign * d.sign = 1 := by
 rcases Int.lt_or_gt_of_ne hd with h | h
 · rw [Int.sign_eq_neg_one_of_neg h]; rfl
 · rw [Int.sign_eq_one_of_pos h]; rfl
theorem parts {n d : Int} (hd : d ≠ 0) : n = (Rat.divInt n d).num * cf n d ∧ d = ((Rat.divInt n d).den : Int) * cf n d := by
  have hg := cf_pos (n := n) hd
  have hg' : d.gcd n = Nat.gcd n.natAbs d.natAbs := by rw [Int.gcd, Nat.gcd_comm]
  obtain ⟨a, ha⟩ : ((Nat.gcd n.natAbs d.natAbs : Nat) : Int) ∣ n := Int.ofNat_dvd_left.2 (Nat.gcd_dvd_left _ _)
  obtain ⟨b, hb⟩ : ((Nat.gcd n.natAbs d.natAbs : Nat) : Int) ∣ d := Int.ofNat_dvd_left.2 (Nat.gcd_dvd_right _ _)
  generalize hG : Nat.gcd n.natAbs d.natAbs = g at *
  have hg0 : (g : Int) ≠ 0 := by omega
  constructor
  · rw [Rat.num_divInt, hg']
    unfold cf
    rw [hG]
    have : d.sign * n / (g : Int) = d.sign * a := by
      rw [ha, show d.sign * ((g : Int) * a) = (g : Int) * (d.sign * a) from by rw [← Int.mul_assoc, ← Int.mul_assoc, Int.mul_comm d.sign]]
      exact Int.mul_ediv_cancel_left _ hg0
    rw [this, show d.sign * a * (d.sign * (g : Int)) = (d.sign * d.sign) * ((g : Int) * a) from by grind, ← ha]
    rw [sgn_sq hd, Int.one_mul]
  · rw [Rat.den_divInt, if_neg hd, hg']
    unfold cf
    rw [hG]
    have e : ((d.natAbs / g : Nat) : Int) = d.sign * b := by
      have h1 : (d.natAbs : Int) = d.sign * d := by rw [Int.sign_mul_self]
      have h2 : d.natAbs = g * b.natAbs := by rw [hb, Int.natAbs_mul]; simp
      rw [h2, Nat.mul_div_cancel_left _ (by omega)]
      have h3 : d.sign = b.sign := by
        rw [hb, Int.sign_mul, Int.sign_eq_one_of_pos (a := (g : Int)) (by omega), Int.one_mul]
      rw [h3, Int.sign_mul_self]
    rw [e, show d.sign * b * (d.sign * (g : Int)) = (d.sign * d.sign) * ((g : Int) * b) from by grind, ← hb]
    rw [sgn_sq hd, Int.one_mul]
theorem num_le {n d : Int} (hd : d ≠ 0) : (Rat.divInt n d).num.natAbs ≤ n.natAbs := by
 have h := congrArg Int.natAbs (parts (n := n) hd).1
 rw [Int.natAbs_mul] at h
 have := Int.natAbs_pos.2 (cf_ne (n := n) hd)
 rw [h]
 exact Nat.le_mul_of_pos_right _ this
theorem den_le {n d : Int} (hd : d ≠ 0) : (Rat.divInt n d).den ≤ d.natAbs := by
 have h := congrArg Int.natAbs (parts (n := n) hd).2
 rw [Int.natAbs_mul] at h
 have := Int.natAbs_pos.2 (cf_ne (n := n) hd)
 rw [h, Int.natAbs_natCast]
 exact Nat.le_mul_of_pos_right _ this
end Fq
namespace Go.Proofs.YtmbcnfogjncdaaaGreat
open Wh
def Fz (n m : Nat) (q : Rat) : Prop := Sz n q.num ∧ Sz m (q.den : Int)
theorem Fz.mono {n m n' m' : Nat} {q : Rat} (h : Fz n m q) (h1 : n ≤ n') (h2 : m ≤ m') : Fz n' m' q := ⟨h.1.mono h1, h.2.mono h2⟩
theorem Sz.le {n : Nat} {a b : Int} (h : Sz n b) (hab : a.natAbs ≤ b.natAbs) : Sz n a := Sz.of_lt (Nat.lt_of_le_of_lt hab h.lt)
theorem Fz.made {n m : Nat} {a b : Int} (ha : Sz n a) (hb : Sz m b) (h0 : b ≠ 0) : Fz n m (Rat.divInt a b) :=
 ⟨ha.le (Fq.num_le h0), hb.le (by rw [Int.natAbs_natCast]; exact Fq.den_le h0)⟩
theorem dd_ne (p q : Rat) : (p.den : Int) * (q.den : Int) ≠ 0 := Int.mul_ne_zero (by have := p.den_pos; omega) (by have := q.den_pos; omega)
theorem dn_ne (p : Rat) {q : Rat} (h : q ≠ 0) : (p.den : Int) * q.num ≠ 0 := Int.mul_ne_zero (by have := p.den_pos; omega) (fun e => h ((Fq.num_zero q).1 e))
theorem Fz.add {n m n' m' : Nat} {p q : Rat} (h : Fz n m p) (g : Fz n' m' q) : Fz (max (n + m') (n' + m) + 1) (m + m') (p + q) := by
 rw [Fq.add_eq]; exact Fz.made ((h.1.mul g.2).add (g.1.mul h.2)) (h.2.mul g.2) (dd_ne p q)
theorem Fz.mul {n m n' m' : Nat} {p q : Rat} (h : Fz n m p) (g : Fz n' m' q) : Fz (n + n') (m + m') (p * q) := by
 rw [Fq.mul_eq]; exact Fz.made (h.1.mul g.1) (h.2.mul g.2) (dd_ne p q)
theorem Fz.div {n m n' m' : Nat} {p q : Rat} (h : Fz n m p) (g : Fz n' m' q) (h0 : q ≠ 0) : Fz (n + m') (m + n') (p / q) := by
 rw [Fq.div_eq]; exact Fz.made (h.1.mul g.2) (h.2.mul g.1) (dn_ne p h0)
theorem Fz.neg {n m : Nat} {p : Rat} (h : Fz n m p) : Fz n m (-p) := ⟨h.1.neg, h.2⟩
theorem Fz.int {n : Nat} {a : Int} (h : Sz n a) : Fz n 1 (a : Rat) := ⟨by rw [Rat.num_intCast]; exact h, by rw [Rat.den_intCast]; exact Sz.small (by decide)⟩
end Go.Proofs.YtmbcnfogjncdaaaGreat
namespace Go.Proofs.YtmbcnfogjncdaaaGreat
open Wh
theorem pow_abs (a : Int) (n : Nat) : (a ^ n).natAbs = a.natAbs ^ n := Int.natAbs_pow a n
theorem pow_abs_mono {a : Int} {m n : Nat} (h : m ≤ n) (ha : 2 ≤ a.natAbs) : (a ^ m).natAbs ≤ (a ^ n).natAbs := by
 rw [pow_abs, pow_abs]; exact Nat.pow_le_pow_right (by omega) h
theorem two_le_of_long {a : Int} {n : Nat} (h : ¬ Sz 256 (a ^ n)) : 2 ≤ a.natAbs := by
  refine Nat.lt_of_not_le fun h1 => h ?_
  have : (a ^ n).natAbs ≤ 1 := by
    rw [pow_abs]
    rcases Nat.le_one_iff_eq_zero_or_eq_one.1 h1 with e | e
    · rw [e]; rcases Nat.eq_zero_or_pos n with h0 | h0
      · subst h0; simp
      · rw [Nat.zero_pow h0]; simp
    · rw [e, Nat.one_pow]; simp
  exact (Sz.small (z := a ^ n) (by omega)).mono (by decide)
theorem long_mono {a : Int} {m n : Nat} (h : m ≤ n) (hm : ¬ Sz 256 (a ^ m)) : ¬ Sz 256 (a ^ n) := fun e =>
 hm (e.le (pow_abs_mono h (two_le_of_long hm)))
theorem half_step (n i : Nat) : n / 2 ^ i = 2 * (n / 2 ^ (i + 1)) + n / 2 ^ i % 2 := by
 rw [Nat.pow_succ, ← Nat.div_div_eq_div_mul]; omega
theorem pow_step (a : Int) (n i : Nat) : a ^ (n / 2 ^ i) = if n / 2 ^ i % 2 = 1 then a ^ (n / 2 ^ (i + 1)) * a ^ (n / 2 ^ (i + 1)) * a else a ^ (n / 2 ^ (i + 1)) * a ^ (n / 2 ^ (i + 1)) := by
  have h := half_step n i
  have e : a ^ (n / 2 ^ (i + 1)) * a ^ (n / 2 ^ (i + 1)) = a ^ (2 * (n / 2 ^ (i + 1))) := by rw [← Int.pow_add]; congr 1; omega
  split
  · next h1 =>
    rw [h1] at h
    rw [h, e, Int.pow_succ]
  · next h1 =>
    have : n / 2 ^ i % 2 = 0 := by omega
    rw [this] at h
    rw [e]
    exact congrArg _ h
def PowAns (a : Int) (n : Nat) (z : Int) : Prop := Sz 768 z ∧ (Sz 256 z ∧ z = a ^ n ∨ ¬ Sz 256 z ∧ ¬ Sz 256 (a ^ n))
theorem pow_parts {q : Rat} {n : Int} (h : 0 ≤ n) : (q ^ n).num = q.num ^ n.toNat ∧ (((q ^ n).den : Nat) : Int) = (q.den : Int) ^ n.toNat := by
 obtain ⟨k, rfl⟩ := Int.eq_ofNat_of_zero_le h
 rw [Int.toNat_natCast, Rat.zpow_natCast, Rat.num_pow, Rat.den_pow]
 exact ⟨rfl, by simp⟩
theorem inv_parts {q : Rat} (h : q ≠ 0) : (q⁻¹).num = q.num.sign * q.den ∧ (((q⁻¹).den : Nat) : Int) = (q.num.natAbs : Int) := by
 have h0 : q.num ≠ 0 := fun e => h ((Fq.num_zero q).1 e)
 have e := Fq.made (n := q.den) (d := q.num) (n' := q.num.sign * q.den) (d' := q.num.natAbs) (e := q.num.sign) h0
  (by rw [show q.num.sign * (q.den : Int) * q.num.sign = q.num.sign * q.num.sign * q.den from by grind, Fq.sgn_sq h0, Int.one_mul])
  (by rw [Int.mul_comm, Int.sign_mul_natAbs]) (by omega)
  (by rw [Int.natAbs_mul, Int.natAbs_sign_of_ne_zero h0, Nat.one_mul, Int.natAbs_natCast, Int.natAbs_natCast, Nat.gcd_comm]; exact Fq.gcd_one q)
 have : q⁻¹ = Rat.divInt q.den q.num := by rw [← Rat.inv_divInt, Rat.num_divInt_den]
 rw [this]; exact e
theorem npow_parts {q : Rat} {n : Int} (hq : q ≠ 0) (h : n < 0) : (q ^ n).num = (q.num.sign * q.den) ^ n.natAbs ∧ (((q ^ n).den : Nat) : Int) = (q.num.natAbs : Int) ^ n.natAbs := by
 obtain ⟨k, hk⟩ : ∃ k : Nat, n = -(k : Int) := ⟨n.natAbs, by omega⟩
 obtain ⟨h1, h2⟩ := inv_parts hq
 have e : q ^ n = (q⁻¹) ^ k := by
  rw [hk, Rat.zpow_neg, Rat.zpow_natCast]
  clear h1 h2 hk h
  induction k with
  | zero => rw [Rat.pow_zero, Rat.pow_zero]; exact Rat.inv_eq_of_mul_eq_one (Rat.mul_one 1)
  | succ k ih => rw [Rat.pow_succ, Rat.inv_mul_rev, ih, Rat.mul_comm, ← Rat.pow_succ]
 have ek : n.natAbs = k := by omega
 rw [e, ek, Rat.num_pow, Rat.den_pow, h1]
 exact ⟨rfl, by rw [← h2]; simp⟩
end Go.Proofs.YtmbcnfogjncdaaaGreat
namespace Go.Proofs.YtmbcnfogjncdaaaGreat
open Wh
def rup (m : Nat) (neg : Bool) (r2 d k : Int) : Bool :=
 if m = 1 then neg else if m = 2 then !neg else if m = 3 then false else if m = 4 then true
 else if m = 5 then decide (d < r2) || (decide (r2 = d) && !neg) else decide (d < r2) || (decide (r2 = d) && decide (k % 2 = 1))
def rfac (neg : Bool) (n d : Int) (m : Nat) : Int :=
 if n % d = 0 then n / d else if rup m neg (n % d + n % d) d (n / d) then n / d + 1 else n / d
def rnd (q u : Rat) (m : Nat) : Rat := Rat.divInt (rfac (decide (q.num < 0)) (q.num * u.den) (q.den * u.num) m * u.num) u.den
theorem rfac_le (neg : Bool) (n d : Int) (m : Nat) (hd : 0 < d) : (rfac neg n d m).natAbs ≤ n.natAbs + 1 := by
 have h := Int.emod_add_mul_ediv n d
 have h1 := Int.emod_nonneg n (show d ≠ 0 by omega)
 have h2 := Int.emod_lt_of_pos n hd
 have key : (n / d).natAbs ≤ n.natAbs := Int.natAbs_ediv_le_natAbs n d
 unfold rfac
 split
 · omega
 · split <;> omega
end Go.Proofs.YtmbcnfogjncdaaaGreat
namespace Go.Proofs.YtmbcnfogjncdaaaGreat
open Go.RowKit Wh
def Fra (W : World) (v : Value) (q : Rat) : Prop := ∃ s s', v = .agg #[.bool (decide (q.num < 0)), s, .bool false, s'] ∧ Lim W s (dig q.num.natAbs) ∧ Lim W s' (dig q.den)
def FraF (B : Nat) (W : World) (v : Value) (q : Rat) : Prop := ∃ s s', v = .agg #[.bool (decide (q.num < 0)), s, .bool false, s'] ∧ LimF B W s (dig q.num.natAbs) ∧ LimF B W s' (dig q.den)
theorem FraF.fra {B W v q} (h : FraF B W v q) : Fra W v q := by obtain ⟨n, d, e, h1, h2⟩ := h; exact ⟨n, d, e, h1.1, h2.1⟩
theorem Fra.below {W W' : World} {B : Nat} {v : Value} {q : Rat} (h : Fra W v q) (hB : Below B W W') (hs : W.heap.size ≤ B) : Fra W' v q := by obtain ⟨n, d, e, h1, h2⟩ := h; exact ⟨n, d, e, h1.below hB hs, h2.below hB hs⟩
theorem Lim.on {W W' : World} {v : Value} {l : List Nat} (h : Lim W v l) (hb : Below W.heap.size W W') : Lim W' v l := h.below hb (Nat.le_refl _)
theorem Num.on {W W' : World} {v : Value} {z : Int} (h : Num W v z) (hb : Below W.heap.size W W') : Num W' v z := h.below hb (Nat.le_refl _)
theorem Fra.on {W W' : World} {v : Value} {q : Rat} (h : Fra W v q) (hb : Below W.heap.size W W') : Fra W' v q := h.below hb (Nat.le_refl _)
theorem FraF.below {B : Nat} {W W' : World} {v : Value} {q : Rat} (h : FraF B W v q) (hb : Below W.heap.size W W') : FraF B W' v q := by obtain ⟨n, d, e, h1, h2⟩ := h; exact ⟨n, d, e, h1.below hb, h2.below hb⟩
theorem FraF.mono {B B' : Nat} {W : World} {v : Value} {q : Rat} (h : FraF B W v q) (hB : B' ≤ B) : FraF B' W v q := by obtain ⟨n, d, e, h1, h2⟩ := h; exact ⟨n, d, e, h1.mono hB, h2.mono hB⟩
theorem den_neg (q : Rat) : decide ((q.den : Int) < 0) = false := decide_eq_false (by have := q.den_pos; omega)
theorem fra_nums {W : World} {s s' : Value} {q : Rat} {b b' : Bool} (h : Fra W (.agg #[.bool b, s, .bool b', s']) q) : b = decide (q.num < 0) ∧ b' = false ∧ Num W (.agg #[.bool b, s]) q.num ∧ Num W (.agg #[.bool b', s']) (q.den : Int) := by
 obtain ⟨t, t', e, h1, h2⟩ := h
 simp only [Value.agg.injEq, Array.mk.injEq, List.cons.injEq, Value.bool.injEq, and_true] at e
 obtain ⟨rfl, rfl, rfl, rfl⟩ := e
 exact ⟨rfl, rfl, ⟨_, rfl, h1⟩, ⟨_, by rw [den_neg], by rwa [Int.natAbs_natCast]⟩⟩
theorem fra_of {W : World} {s s' : Value} {q : Rat} {b b' : Bool} (h1 : Num W (.agg #[.bool b, s]) q.num) (h2 : Num W (.agg #[.bool b', s']) (q.den : Int)) : Fra W (.agg #[.bool b, s, .bool b', s']) q := by
 obtain ⟨t, e, h1⟩ := h1
 obtain ⟨t', e', h2⟩ := h2
 rw [den_neg] at e'
 simp only [Value.agg.injEq, Array.mk.injEq, List.cons.injEq, Value.bool.injEq, and_true] at e e'
 obtain ⟨rfl, rfl⟩ := e
 obtain ⟨rfl, rfl⟩ := e'
 exact ⟨_, _, rfl, h1, by rwa [Int.natAbs_natCast] at h2⟩
theorem fraF_of {B : Nat} {W : World} {s s' : Value} {q : Rat} {b b' : Bool} (h1 : NumF B W (.agg #[.bool b, s]) q.num) (h2 : NumF B W (.agg #[.bool b', s']) (q.den : Int)) : FraF B W (.agg #[.bool b, s, .bool b', s']) q := by
 obtain ⟨t, e, h1⟩ := h1
 obtain ⟨t', e', h2⟩ := h2
 rw [den_neg] at e'
 simp only [Value.agg.injEq, Array.mk.injEq, List.cons.injEq, Value.bool.injEq, and_true] at e e'
 obtain ⟨rfl, rfl⟩ := e
 obtain ⟨rfl, rfl⟩ := e'
 exact ⟨_, _, rfl, h1, by rwa [Int.natAbs_natCast] at h2⟩
theorem Num.opened {W : World} {v : Value} {z : Int} (h : Num W v z) : ∃ b a k c, v = .agg #[.bool b, .slice a k c] := by
 obtain ⟨s, rfl, hl⟩ := h
 obtain ⟨a, c, rfl⟩ := lim_slice hl
 exact ⟨_, _, _, _, rfl⟩
theorem Fra.opened {W : World} {v : Value} {q : Rat} (h : Fra W v q) : ∃ b a k c b' a' k' c', v = .agg #[.bool b, .slice a k c, .bool b', .slice a' k' c'] := by
 obtain ⟨n, d, rfl, h1, h2⟩ := h
 obtain ⟨a, c, rfl⟩ := lim_slice h1
 obtain ⟨a', c', rfl⟩ := lim_slice h2
 exact ⟨_, _, _, _, _, _, _, _, rfl⟩
abbrev zeroF : Value := .agg #[.bool false, .slice none 0 0, .bool false, .slice none 0 0]
theorem num_len {W : World} {b : Bool} {a : Option Addr} {k c : Nat} {z : Int} (h : Num W (.agg #[.bool b, .slice a k c]) z) : k = (dig z.natAbs).length ∧ b = decide (z < 0) := by
 obtain ⟨s, e, hl⟩ := h
 simp only [Value.agg.injEq, Array.mk.injEq, List.cons.injEq, Value.bool.injEq, and_true] at e
 obtain ⟨e1, e2⟩ := e
 subst e2
 exact ⟨lim_len hl, e1⟩
theorem isZero_raw (b : Bool) (s : Value) (l : List Nat) (w : World) (h : Lim w s l) : Calls Tryz.prog 82 #[.agg #[.bool b, s]] w fun e w' => e = .returned (.bool (decide (l = []))) ∧ Below w.heap.size w w' := by
  obtain ⟨a, c, rfl⟩ := lim_slice h
  clear h
  by_cases hz : l = []
  · subst hz
    go_enter Tryz.func82, Tryz.ntmps82
    go_wp2
    go_ret
    exact ⟨by simp, (Below.refl _ _).alloc (Nat.le_refl _) _⟩
  · have h0 : (0 : Nat) < l.length := List.length_pos_iff.2 hz
    have h1 : ((l.length : Int) == 0) = false := by rw [beq_eq_false_iff_ne]; omega
    go_enter Tryz.func82, Tryz.ntmps82
    go_wp2
    go_ret
    exact ⟨by simp [hz], (Below.refl _ _).alloc (Nat.le_refl _) _⟩
theorem tooLong_raw (b : Bool) (s : Value) (l : List Nat) (w : World) (h : Lim w s l) : Calls Tryz.prog 89 #[.agg #[.bool b, s]] w fun e w' => e = .returned (.bool (decide (256 < l.length))) ∧ Below w.heap.size w w' := by
  obtain ⟨a, c, rfl⟩ := lim_slice h
  clear h
  by_cases hz : 256 < l.length
  · have h1 : (256 : Int) < (l.length : Int) := by omega
    go_enter Tryz.func89, Tryz.ntmps89
    go_wp2
    go_ret
    exact ⟨by simp [hz], (Below.refl _ _).alloc (Nat.le_refl _) _⟩
  · have h1 : ¬ (256 : Int) < (l.length : Int) := by omega
    go_enter Tryz.func89, Tryz.ntmps89
    go_wp2
    go_ret
    exact ⟨by simp, (Below.refl _ _).alloc (Nat.le_refl _) _⟩
end Go.Proofs.YtmbcnfogjncdaaaGreat
namespace Go.Proofs.YtmbcnfogjncdaaaGreat
open Go.RowKit Wh
def fvld (b : Bool) (l : List Nat) (b' : Bool) (l' : List Nat) : Bool :=
 vld b l && vld b' l' && decide (l.length ≤ 256) && decide (l'.length ≤ 256) && decide (l' ≠ []) && !b' && (Nat.gcd (val l) (val l') == 1)
theorem fvld_fra {q : Rat} (h : Fz 256 256 q) : fvld (decide (q.num < 0)) (dig q.num.natAbs) false (dig q.den) = true := by
 have h1 := vld_num q.num (h.1.len (by decide))
 have h2 := vld_num (q.den : Int) (h.2.len (by decide))
 rw [decide_eq_false (show ¬ (q.den : Int) < 0 by have := q.den_pos; omega), Int.natAbs_natCast] at h2
 have l1 := h.1.len2
 have l2 := h.2.len2
 rw [Int.natAbs_natCast] at l2
 have l3 : dig q.den ≠ [] := fun e => by have := (dig_nil_iff q.den).1 e; have := q.den_pos; omega
 unfold fvld
 rw [h1, h2, val_dig, val_dig, decide_eq_true l1, decide_eq_true l2, decide_eq_true l3, Fq.gcd_one]
 rfl
theorem isOne_raw (b : Bool) (s : Value) (l : List Nat) (w : World) (h : Lim w s l) : Calls Tryz.prog 151 #[.agg #[.bool b, s]] w fun e w' => e = .returned (.bool (decide (b = false ∧ l = [1]))) ∧ Below w.heap.size w w' := by
  obtain ⟨a, c, rfl⟩ := lim_slice h
  by_cases hl : l.length = 1
  · obtain ⟨x, rfl⟩ := List.length_eq_one_iff.1 hl
    obtain ⟨bk, off, rfl⟩ := lim_addr h (by simp)
    have hc := cell_of_lim h 0 (by simp)
    have hlt := lt_of_cell hc
    have hx : ([x] : List Nat)[0]?.getD 0 = x := rfl
    rw [hx] at hc
    simp only [Nat.add_zero] at hc
    clear h hl hx
    by_cases h1 : x = 1
    · subst h1
      go_enter Tryz.func151, Tryz.ntmps151
      go_wp2
      go_ret
      exact ⟨by cases b <;> simp, (Below.refl _ _).alloc (Nat.le_refl _) _⟩
    · have h2 : ((x : Int) == 1) = false := by rw [beq_eq_false_iff_ne]; omega
      go_enter Tryz.func151, Tryz.ntmps151
      go_wp2
      go_ret
      exact ⟨by simp, (Below.refl _ _).alloc (Nat.le_refl _) _⟩
  · have h2 : ((l.length : Int) == 1) = false := by rw [beq_eq_false_iff_ne]; omega
    have h3 : ¬ l = [1] := fun e => hl (by rw [e]; rfl)
    clear h
    go_enter Tryz.func151, Tryz.ntmps151
    go_wp2
    go_ret
    exact ⟨by simp [h3], (Below.refl _ _).alloc (Nat.le_refl _) _⟩
end Go.Proofs.YtmbcnfogjncdaaaGreat
namespace Go.Proofs.YtmbcnfogjncdaaaGreat
open Go.RowKit Wh
theorem frplus_any (va vb : Value) (a b z : Int) (hzz : a + b = z) (ha : Sz 1024 a) (hb : Sz 1024 b) (hlen : Sz 1024 z) (w : World) (h' : Num w va a) (g' : Num w vb b) :
  Calls Tryz.prog 147 #[va, vb] w fun e w' => (∃ v, e = .returned v ∧ NumF w.heap.size w' v z) ∧ Below w.heap.size w w' := by
 subst hzz
 have hw1 := fun W (hW : Below w.heap.size w W) => Add_ok va vb a b ha hb W (h'.below hW (Nat.le_refl _)) (g'.below hW (Nat.le_refl _)) hlen
 have HW1 := Lib.hid hw1
 obtain ⟨na, aa, ja, ca, rfl⟩ := h'.opened
 obtain ⟨nb, ab, jb, cb, rfl⟩ := g'.opened
 clear hw1 h' g' ha hb hlen
 obtain ⟨z, hz0⟩ : ∃ z : Int, z = a + b := ⟨_, rfl⟩
 rw [← hz0] at HW1
 rw [← hz0]
 clear hz0
 have hz := (((Below.refl w.heap.size w).alloc (Nat.le_refl _) (.cells #[.bool na, .slice aa ja ca] 24)).alloc (by simp) (.cells #[.bool nb, .slice ab jb cb] 24)).alloc (by simp <;> omega) (.cells #[.bool false, .slice none 0 0] 24)
 have x4 := Bx.new ((w.alloc (.cells #[.bool na, .slice aa ja ca] 24)).alloc (.cells #[.bool nb, .slice ab jb cb] 24)) (.bool false) (.slice none 0 0)
 simp only [World.size_alloc] at x4
 go_enter Tryz.func147, Tryz.ntmps147
 go_wp2_with fail
 refine (HW1.out _ hz).mono ?_
 rintro e w1 ⟨⟨v, rfl, hn⟩, hb1⟩
 obtain ⟨s2, rfl, hl⟩ := hn
 obtain ⟨a3, c3, rfl⟩ := lf_slice hl
 have hB1 := hz.trans (hb1.mono hz.size)
 have y4 := x4.on hb1
 obtain ⟨p4, p4'⟩ := y4.cells
 obtain ⟨f4, f4'⟩ := y4.free
 have hlt := (x4.on hb1).lt
 go_wp2
 obtain ⟨k4, k4'⟩ := ((y4.put (.bool (decide (z < 0))) (.slice a3 (dig z.natAbs).length c3)).alloc (.cells #[.bool (decide (z < 0)), .slice a3 (dig z.natAbs).length c3] 24)).cells
 have hl2 := hl.put (B' := w.heap.size + 1 + 1) (by simp <;> omega) (.bool (decide (z < 0))) (.slice a3 (dig z.natAbs).length c3)
 have hl3 := (hl2.below ((Below.refl _ _).alloc (Nat.le_refl _) (.cells #[.bool (decide (z < 0)), .slice a3 (dig z.natAbs).length c3] 24))).mono hz.size
 have hBF := (Below.put hB1 (show w.heap.size ≤ w.heap.size + 1 + 1 by omega) (.bool (decide (z < 0))) (.slice a3 (dig z.natAbs).length c3))
 exact bodyPost_ret (v := .agg #[.bool (decide (z < 0)), .slice a3 (dig z.natAbs).length c3]) (by simp [results, Tryz.results147, go_sem, k4, k4']) rfl ⟨⟨_, rfl, _, rfl, hl3⟩, hBF.alloc hBF.size _⟩
theorem frtimes_any (va vb : Value) (a b z : Int) (hzz : a * b = z) (ha : Sz 1024 a) (hb : Sz 1024 b) (hlen : Sz 1024 z) (w : World) (h' : Num w va a) (g' : Num w vb b) :
  Calls Tryz.prog 115 #[va, vb] w fun e w' => (∃ v, e = .returned v ∧ NumF w.heap.size w' v z) ∧ Below w.heap.size w w' := by
 subst hzz
 have hw1 := fun W (hW : Below w.heap.size w W) => Mul_ok va vb a b ha hb W (h'.below hW (Nat.le_refl _)) (g'.below hW (Nat.le_refl _)) hlen
 have HW1 := Lib.hid hw1
 obtain ⟨na, aa, ja, ca, rfl⟩ := h'.opened
 obtain ⟨nb, ab, jb, cb, rfl⟩ := g'.opened
 clear hw1 h' g' ha hb hlen
 obtain ⟨z, hz0⟩ : ∃ z : Int, z = a * b := ⟨_, rfl⟩
 rw [← hz0] at HW1
 rw [← hz0]
 clear hz0
 have hz := (((Below.refl w.heap.size w).alloc (Nat.le_refl _) (.cells #[.bool na, .slice aa ja ca] 24)).alloc (by simp) (.cells #[.bool nb, .slice ab jb cb] 24)).alloc (by simp <;> omega) (.cells #[.bool false, .slice none 0 0] 24)
 have x4 := Bx.new ((w.alloc (.cells #[.bool na, .slice aa ja ca] 24)).alloc (.cells #[.bool nb, .slice ab jb cb] 24)) (.bool false) (.slice none 0 0)
 simp only [World.size_alloc] at x4
 go_enter Tryz.func115, Tryz.ntmps115
 go_wp2_with fail
 refine (HW1.out _ hz).mono ?_
 rintro e w1 ⟨⟨v, rfl, hn⟩, hb1⟩
 obtain ⟨s2, rfl, hl⟩ := hn
 obtain ⟨a3, c3, rfl⟩ := lf_slice hl
 have hB1 := hz.trans (hb1.mono hz.size)
 have y4 := x4.on hb1
 obtain ⟨p4, p4'⟩ := y4.cells
 obtain ⟨f4, f4'⟩ := y4.free
 have hlt := (x4.on hb1).lt
 go_wp2
 obtain ⟨k4, k4'⟩ := ((y4.put (.bool (decide (z < 0))) (.slice a3 (dig z.natAbs).length c3)).alloc (.cells #[.bool (decide (z < 0)), .slice a3 (dig z.natAbs).length c3] 24)).cells
 have hl2 := hl.put (B' := w.heap.size + 1 + 1) (by simp <;> omega) (.bool (decide (z < 0))) (.slice a3 (dig z.natAbs).length c3)
 have hl3 := (hl2.below ((Below.refl _ _).alloc (Nat.le_refl _) (.cells #[.bool (decide (z < 0)), .slice a3 (dig z.natAbs).length c3] 24))).mono hz.size
 have hBF := (Below.put hB1 (show w.heap.size ≤ w.heap.size + 1 + 1 by omega) (.bool (decide (z < 0))) (.slice a3 (dig z.natAbs).length c3))
 exact bodyPost_ret (v := .agg #[.bool (decide (z < 0)), .slice a3 (dig z.natAbs).length c3]) (by simp [results, Tryz.results115, go_sem, k4, k4']) rfl ⟨⟨_, rfl, _, rfl, hl3⟩, hBF.alloc hBF.size _⟩
theorem frdivide_any (va vb : Value) (a b : Int) (ha : Sz 1024 a) (hb : Sz 1024 b) (hb0 : b ≠ 0) (w : World) (h' : Num w va a) (g' : Num w vb b) :
  Calls Tryz.prog 83 #[va, vb] w fun e w' => (∃ vq vr q r, e = .returned (.tuple #[vq, vr]) ∧ DivRel a b q r ∧ NumF w.heap.size w' vq q ∧ NumF w.heap.size w' vr r) ∧ Below w.heap.size w w' := by
 have hw1 := fun W (hW : Below w.heap.size w W) => DivMod_any va vb a b ha hb hb0 W (h'.below hW (Nat.le_refl _)) (g'.below hW (Nat.le_refl _))
 have HW1 := Lib.hid hw1
 obtain ⟨na, aa, ja, ca, rfl⟩ := h'.opened
 obtain ⟨nb, ab, jb, cb, rfl⟩ := g'.opened
 clear hw1 h' g' ha hb hb0
 have hz := ((((Below.refl w.heap.size w).alloc (Nat.le_refl _) (.cells #[.bool na, .slice aa ja ca] 24)).alloc (by simp) (.cells #[.bool nb, .slice ab jb cb] 24)).alloc (by simp <;> omega) (.cells #[.bool false, .slice none 0 0] 24)).alloc (by simp <;> omega) (.cells #[.bool false, .slice none 0 0] 24)
 have x4 := (Bx.new ((w.alloc (.cells #[.bool na, .slice aa ja ca] 24)).alloc (.cells #[.bool nb, .slice ab jb cb] 24)) (.bool false) (.slice none 0 0)).alloc (.cells #[.bool false, .slice none 0 0] 24)
 have x5 := Bx.new (((w.alloc (.cells #[.bool na, .slice aa ja ca] 24)).alloc (.cells #[.bool nb, .slice ab jb cb] 24)).alloc (.cells #[.bool false, .slice none 0 0] 24)) (.bool false) (.slice none 0 0)
 simp only [World.size_alloc] at x4 x5
 go_enter Tryz.func83, Tryz.ntmps83
 go_wp2_with fail
 refine (HW1.out _ hz).mono ?_
 rintro e w1 ⟨⟨vq, vr, q, r, rfl, hd, hn, hn'⟩, hb1⟩
 obtain ⟨s2, rfl, hl⟩ := hn
 obtain ⟨a3, c3, rfl⟩ := lf_slice hl
 obtain ⟨s4, rfl, hl'⟩ := hn'
 obtain ⟨a4, c4, rfl⟩ := lf_slice hl'
 have HD := Lib.hid hd
 have hB1 := hz.trans (hb1.mono hz.size)
 have y4 := x4.on hb1
 have y5 := x5.on hb1
 obtain ⟨p4, p4'⟩ := y4.cells
 obtain ⟨f4, f4'⟩ := y4.free
 obtain ⟨p5, p5'⟩ := y5.cells
 obtain ⟨f5, f5'⟩ := y5.free
 have hlt := y5.lt
 clear hd
 go_wp2
 go_region
 clear p4 p4' p5 p5' f4 f4' f5 f5'
 rename_i K hK
 refine hK _ _ ?_
 clear hK K
 refine wp_ret ?_
 have n1 : w.heap.size + 1 + 1 + 1 ≠ w.heap.size + 1 + 1 := by omega
 have n2 : w.heap.size + 1 + 1 ≠ w.heap.size + 1 + 1 + 1 := by omega
 have z4 := (((y4.put (.bool (decide (q < 0))) (.slice a3 (dig q.natAbs).length c3)).put_other (.bool (decide (r < 0))) (.slice a4 (dig r.natAbs).length c4) n1).put (.bool (decide (q < 0))) (.slice a3 (dig q.natAbs).length c3)).put_other (.bool (decide (r < 0))) (.slice a4 (dig r.natAbs).length c4) n1
 have z5 := (((y5.put_other (.bool (decide (q < 0))) (.slice a3 (dig q.natAbs).length c3) n2).put (.bool (decide (r < 0))) (.slice a4 (dig r.natAbs).length c4)).put_other (.bool (decide (q < 0))) (.slice a3 (dig q.natAbs).length c3) n2).put (.bool (decide (r < 0))) (.slice a4 (dig r.natAbs).length c4)
 obtain ⟨k4, k4'⟩ := z4.cells
 obtain ⟨k5, k5'⟩ := z5.cells
 have m2 : w.heap.size ≤ w.heap.size + 1 + 1 := by omega
 have m3 : w.heap.size ≤ w.heap.size + 1 + 1 + 1 := by omega
 have l2 : w.heap.size + 1 + 1 < w.heap.size + 1 + 1 + 1 + 1 := by omega
 have l3 : w.heap.size + 1 + 1 + 1 < w.heap.size + 1 + 1 + 1 + 1 := by omega
 have hsz : w.heap.size ≤ w.heap.size + 1 + 1 + 1 + 1 := by omega
 simp only [World.size_alloc] at hl hl'
 have g1 := ((((hl.put l2 (.bool (decide (q < 0))) (.slice a3 (dig q.natAbs).length c3)).put l3 (.bool (decide (r < 0))) (.slice a4 (dig r.natAbs).length c4)).put l2 (.bool (decide (q < 0))) (.slice a3 (dig q.natAbs).length c3)).put l3 (.bool (decide (r < 0))) (.slice a4 (dig r.natAbs).length c4)).mono hsz
 have g2 := ((((hl'.put l2 (.bool (decide (q < 0))) (.slice a3 (dig q.natAbs).length c3)).put l3 (.bool (decide (r < 0))) (.slice a4 (dig r.natAbs).length c4)).put l2 (.bool (decide (q < 0))) (.slice a3 (dig q.natAbs).length c3)).put l3 (.bool (decide (r < 0))) (.slice a4 (dig r.natAbs).length c4)).mono hsz
 have hBF := ((Below.put (Below.put (Below.put (Below.put hB1 m2 (.bool (decide (q < 0))) (.slice a3 (dig q.natAbs).length c3)) m3 (.bool (decide (r < 0))) (.slice a4 (dig r.natAbs).length c4)) m2 (.bool (decide (q < 0))) (.slice a3 (dig q.natAbs).length c3)) m3 (.bool (decide (r < 0))) (.slice a4 (dig r.natAbs).length c4)).drew)
 clear y4 y5 z4 z5 hz x4 x5 hl hl' hB1 HW1
 generalize ((((((((w1.setCell ⟨w.heap.size + 1 + 1, 0, none⟩ (.bool (decide (q < 0)))).setCell ⟨w.heap.size + 1 + 1, 1, none⟩ (.slice a3 (dig q.natAbs).length c3)).setCell ⟨w.heap.size + 1 + 1 + 1, 0, none⟩ (.bool (decide (r < 0)))).setCell ⟨w.heap.size + 1 + 1 + 1, 1, none⟩ (.slice a4 (dig r.natAbs).length c4)).setCell ⟨w.heap.size + 1 + 1, 0, none⟩ (.bool (decide (q < 0)))).setCell ⟨w.heap.size + 1 + 1, 1, none⟩ (.slice a3 (dig q.natAbs).length c3)).setCell ⟨w.heap.size + 1 + 1 + 1, 0, none⟩ (.bool (decide (r < 0)))).setCell ⟨w.heap.size + 1 + 1 + 1, 1, none⟩ (.slice a4 (dig r.natAbs).length c4)) = WF at k4 k4' k5 k5' g1 g2 hBF ⊢
 exact bodyPost_ret (v := .tuple #[.agg #[.bool (decide (q < 0)), .slice a3 (dig q.natAbs).length c3], .agg #[.bool (decide (r < 0)), .slice a4 (dig r.natAbs).length c4]]) (by simp [results, Tryz.results83, go_sem, k4, k4', k5, k5']) rfl ⟨⟨_, _, q, r, rfl, HD.out, ⟨_, rfl, g1⟩, ⟨_, rfl, g2⟩⟩, hBF⟩
end Go.Proofs.YtmbcnfogjncdaaaGreat
