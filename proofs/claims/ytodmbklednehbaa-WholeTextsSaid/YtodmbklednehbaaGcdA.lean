/-
'shortDivisor'.
-/
import Derived.Test.YtodmbklednehbaaDivide
namespace Go.Proofs.Ytodmbklednehbaa
open Go.RowKit Wh

def GcdRel (a b : Nat) (x y : Value) : Prop := ∃ p q : Nat, p < 18446744073709551616 ∧ q < 18446744073709551616 ∧ Nat.gcd p q = Nat.gcd a b ∧ x = .int .u64 (p : Int) ∧ y = .int .u64 (q : Int)

set_option maxRecDepth 100000 in
set_option maxHeartbeats 1000000 in
theorem shortDivisor_any (a b : Nat) (ha : a < 18446744073709551616) (hb : b < 18446744073709551616) (w : World) :
    Calls Try.prog 81 #[.int .u64 (a : Int), .int .u64 (b : Int)] w fun e w' => e = .returned (.int .u64 ((Nat.gcd a b : Nat) : Int)) ∧ Below w.heap.size w w' := by
  go_enter Try.func81, Try.ntmps81
  go_wp2
  go_loopw [0, 1] (fun x y wr => GcdRel a b x y ∧ Below w.heap.size w wr) (fun _ y _ => (intOf y).toNat)
  case atStart => exact ⟨⟨a, b, ha, hb, rfl, rfl, rfl⟩, Below.refl _ _⟩
  case round =>
    obtain ⟨⟨p, q, hp, hq, hg, rfl, rfl⟩, hB⟩ := hrel
    rcases Nat.eq_zero_or_pos q with rfl | hq0
    · go_wp2
      go_ret
      rw [Nat.gcd_zero_right] at hg
      subst hg
      exact ⟨rfl, hB⟩
    · have hne : ¬ (q : Int) = 0 := by omega
      have hd : (p : Int) % (q : Int) = ((p % q : Nat) : Int) := by simp
      go_wp2
      go_region
      have hlt := Nat.mod_lt p hq0
      refine ⟨⟨_, _, _, _, _, _, _, _, ⟨⟨q, p % q, hq, by omega, by rw [Nat.gcd_comm q, ← Nat.gcd_rec, Nat.gcd_comm, hg], rfl, by rw [hd]⟩, hB.drew⟩, rfl⟩, ?_⟩
      simp only [intOf, hd, Array.getD]
      simp
      omega

/-- The number of bits of a positive number's limbs, from the last one on. -/
def BitRel (u n0 : Nat) (n t : Value) : Prop := ∃ k : Nat, n = .int .i64 ((n0 + k : Nat) : Int) ∧ t = .int .u16 ((u / 2 ^ k : Nat) : Int) ∧ k ≤ 16 ∧ (k = 0 ∨ 2 ^ (k - 1) ≤ u)

set_option maxRecDepth 100000 in
set_option maxHeartbeats 1000000 in
theorem bitLen_any (sv : Value) (l : List Nat) (hl : Lm l) (hne : l ≠ []) (hll : l.length ≤ 1048000) (h0 : l[l.length - 1]?.getD 0 ≠ 0) (w : World) (h : Lim w sv l) :
    Calls Try.prog 83 #[sv] w fun e w' => (∃ k : Nat, e = .returned (.int .i64 ((16 * (l.length - 1) + k : Nat) : Int)) ∧ 1 ≤ k ∧ k ≤ 16 ∧ 2 ^ (k - 1) ≤ l[l.length - 1]?.getD 0 ∧ l[l.length - 1]?.getD 0 < 2 ^ k) ∧ w = w' := by
  have h' := h
  obtain ⟨a, cap, rfl, hlc, ⟨hcm, hcl, hcn⟩, hcs⟩ := h'
  obtain ⟨b, off, rfl, hb, hc⟩ := h.block hne
  have hpos : 0 < l.length := by cases l with | nil => exact absurd rfl hne | cons => simp
  have hcell := hc (l.length - 1) (by omega)
  have hu := hl.getD (l.length - 1)
  generalize l[l.length - 1]?.getD 0 = u at *
  clear hc hcs hcn h
  obtain ⟨n0, hn0⟩ : ∃ n0, n0 = 16 * (l.length - 1) := ⟨_, rfl⟩
  have hn1 : n0 ≤ 16768000 := by omega
  rw [← hn0]
  go_enter Try.func83, Try.ntmps83
  go_wp2
  have hn2 : 16 * ((l.length : Int) - 1) = (n0 : Int) := by omega
  rw [hn2]
  go_loopw [3, 4] (fun n t wr => BitRel u n0 n t ∧ Same w wr) (fun _ t _ => (intOf t).toNat)
  case atStart => exact ⟨⟨0, rfl, by simp, by omega, .inl rfl⟩, rfl⟩
  case round =>
    obtain ⟨⟨k, rfl, rfl, hk, hk2⟩, hs⟩ := hrel
    obtain rfl : w = wr := hs
    have HK := Lib.hid hk2
    clear hk2
    obtain ⟨v, hv⟩ : ∃ v, v = u / 2 ^ k := ⟨_, rfl⟩
    have hvu : v ≤ u := by rw [hv]; exact Nat.div_le_self _ _
    have HV := Lib.hid hv
    rw [← hv]
    clear hv
    rcases Nat.eq_zero_or_pos v with rfl | hv0
    · have hlt : u < 2 ^ k := by
        have h1 := HV.out
        rcases Nat.lt_or_ge u (2 ^ k) with h2 | h2
        · exact h2
        · have := Nat.div_pos h2 (Nat.two_pow_pos k); omega
      have hk1 : k ≠ 0 := by rintro rfl; simp at hlt; omega
      have HLT := Lib.hid hlt
      clear hlt
      go_wp2
      go_ret
      exact ⟨⟨k, rfl, by omega, hk, (HK.out.resolve_left hk1), HLT.out⟩, rfl⟩
    · have hge : 2 ^ k ≤ u := by
        rcases Nat.lt_or_ge u (2 ^ k) with h2 | h2
        · have := HV.out; rw [Nat.div_eq_of_lt h2] at this; omega
        · exact h2
      have hk16 : k < 16 := by
        rcases Nat.lt_or_ge k 16 with h2 | h2
        · exact h2
        · have := Nat.pow_le_pow_right (show 0 < 2 by omega) h2; omega
      have HGE := Lib.hid hge
      clear hge
      go_wp2
      have e1 : u / 2 ^ (k + 1) = v / 2 := by rw [HV.out, Nat.pow_succ, Nat.div_div_eq_div_mul]
      have e2 : (16 * ((l.length - 1 : Nat) : Int) + k + 1) = ((n0 + (k + 1) : Nat) : Int) := by omega
      exact ⟨⟨⟨k + 1, by rw [e2], by rw [e1]; simp, by omega, .inr (by simpa using HGE.out)⟩, rfl⟩, by simp [intOf]; omega⟩

end Go.Proofs.Ytodmbklednehbaa
