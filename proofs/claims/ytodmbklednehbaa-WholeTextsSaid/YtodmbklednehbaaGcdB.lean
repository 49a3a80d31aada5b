/-
'bitsFrom'.
-/
import Derived.Test.YtodmbklednehbaaGcdA
namespace Go.Proofs.Ytodmbklednehbaa
open Go.RowKit Wh

/-- The bits from number low on, of the first i limbs. -/
def bitsOf (l : List Nat) (low i : Nat) : Nat := val (l.take i) / 2 ^ low

theorem bitsOf_start {l : List Nat} (hl : Lm l) {low : Nat} : bitsOf l low (low / 16) = 0 := by
  unfold bitsOf
  have h1 := val_lt (hl.take (low / 16))
  refine Nat.div_eq_of_lt (Nat.lt_of_lt_of_le h1 ?_)
  have h2 : (65536 : Nat) = 2 ^ 16 := rfl
  rw [h2, ← Nat.pow_mul]
  exact Nat.pow_le_pow_right (by omega) (by simp; omega)

theorem val_take_succ {l : List Nat} {i : Nat} (hi : i < l.length) : val (l.take (i + 1)) = val (l.take i) + 2 ^ (16 * i) * l[i]?.getD 0 := by
  rw [List.take_succ_eq_append_getElem hi, val_append, List.length_take, Nat.min_eq_left (by omega), getD_lt_length hi, val_cons, val_nil, Nat.pow_mul]
  simp

theorem bitsOf_low {l : List Nat} (hl : Lm l) {low i : Nat} (hi : i < l.length) (h1 : 16 * i < low) (h2 : low < 16 * i + 16) :
    bitsOf l low (i + 1) = l[i]?.getD 0 / 2 ^ (low - 16 * i) := by
  unfold bitsOf
  have h3 := val_lt (hl.take i)
  rw [List.length_take, Nat.min_eq_left (by omega), show (65536 : Nat) = 2 ^ 16 from rfl, ← Nat.pow_mul] at h3
  rw [val_take_succ hi, show low = 16 * i + (low - 16 * i) from by omega, Nat.pow_add, ← Nat.div_div_eq_div_mul, Nat.add_mul_div_left _ _ (Nat.two_pow_pos _), Nat.div_eq_of_lt h3, Nat.zero_add]
  congr 2
  omega

theorem bitsOf_high {l : List Nat} (hl : Lm l) {low i : Nat} (hi : i < l.length) (h1 : low ≤ 16 * i) :
    bitsOf l low (i + 1) = bitsOf l low i + l[i]?.getD 0 * 2 ^ (16 * i - low) ∧ bitsOf l low i < 2 ^ (16 * i - low) := by
  unfold bitsOf
  have h3 := val_lt (hl.take i)
  rw [List.length_take, Nat.min_eq_left (by omega), show (65536 : Nat) = 2 ^ 16 from rfl, ← Nat.pow_mul] at h3
  have e : 2 ^ (16 * i) = 2 ^ low * 2 ^ (16 * i - low) := by rw [← Nat.pow_add]; congr 1; omega
  rw [val_take_succ hi]
  constructor
  · rw [e, Nat.mul_assoc, Nat.add_mul_div_left _ _ (Nat.two_pow_pos _), Nat.mul_comm (2 ^ (16 * i - low))]
  · rw [Nat.div_lt_iff_lt_mul (Nat.two_pow_pos _), Nat.mul_comm, ← e]; exact h3

theorem bitsOf_mono {l : List Nat} {low i : Nat} : bitsOf l low i ≤ val l / 2 ^ low := by
  unfold bitsOf
  refine Nat.div_le_div_right ?_
  have := val_take_drop l i
  omega

theorem bitsOf_all {l : List Nat} {low i : Nat} (h : l.length ≤ i) : bitsOf l low i = val l / 2 ^ low := by
  unfold bitsOf
  rw [List.take_of_length_le h]

theorem bits_or_i64_nat (a b : Nat) (ha : a < 9223372036854775808) (hb : b < 9223372036854775808) : bits .or .i64 (a : Int) (b : Int) = ((a ||| b : Nat) : Int) := by
  have hx : a ||| b < 2 ^ 63 := Nat.or_lt_two_pow (by omega) (by omega)
  have h1 : (BitVec.ofInt 64 (a : Int)).toNat = a := by
    rw [BitVec.ofInt_natCast, BitVec.toNat_ofNat]; exact Nat.mod_eq_of_lt (by omega)
  have h2 : (BitVec.ofInt 64 (b : Int)).toNat = b := by
    rw [BitVec.ofInt_natCast, BitVec.toNat_ofNat]; exact Nat.mod_eq_of_lt (by omega)
  show IntKind.i64.wrap ((BitVec.ofInt 64 (a : Int) ||| BitVec.ofInt 64 (b : Int)).toNat : Int) = _
  rw [BitVec.toNat_or, h1, h2]
  exact IntWalk.i64_in _ (by omega)

theorem or_high {n u s : Nat} (hn : n < 2 ^ s) : n ||| u * 2 ^ s = n + u * 2 ^ s := by
  rw [Nat.or_comm, Nat.mul_comm, ← Nat.two_pow_add_eq_or_of_lt hn, Nat.add_comm]

def BitsRel (l : List Nat) (low : Nat) (n i : Value) : Prop := ∃ k : Nat, low / 16 ≤ k ∧ (k ≤ l.length ∨ k = low / 16) ∧ i = .int .i64 (k : Int) ∧ n = .int .i64 ((bitsOf l low k : Nat) : Int)

set_option maxRecDepth 100000 in
set_option maxHeartbeats 1000000 in
theorem bitsFrom_any (sv : Value) (l : List Nat) (hl : Lm l) (low : Nat) (hll : l.length ≤ 1048000) (hlow : low ≤ 1000000000) (hsh : 16 * l.length ≤ low + 78) (hfit : val l / 2 ^ low < 4611686018427387904) (w : World) (h : Lim w sv l) :
    Calls Try.prog 84 #[sv, .int .i64 (low : Int)] w fun e w' => e = .returned (.int .i64 ((val l / 2 ^ low : Nat) : Int)) ∧ w = w' := by
  have h' := h
  obtain ⟨a, cap, rfl, hlc, ⟨hcm, hcl, hcn⟩, hcs⟩ := h'
  clear hcs hcn
  go_enter Try.func84, Try.ntmps84
  go_wp2
  go_loopw [5, 6] (fun n i wr => BitsRel l low n i ∧ Same w wr) (fun _ i _ => l.length - (intOf i).toNat)
  case atStart => exact ⟨⟨low / 16, Nat.le_refl _, .inr rfl, by simp, by rw [bitsOf_start hl]; rfl⟩, rfl⟩
  case round =>
    obtain ⟨⟨k, hk1, hk2, rfl, rfl⟩, hs⟩ := hrel
    obtain rfl : w = wr := hs
    have hb0 := Nat.lt_of_le_of_lt (bitsOf_mono (l := l) (low := low) (i := k)) hfit
    have hb1 := Nat.lt_of_le_of_lt (bitsOf_mono (l := l) (low := low) (i := k + 1)) hfit
    obtain ⟨n, hn⟩ : ∃ n, n = bitsOf l low k := ⟨_, rfl⟩
    have HN := Lib.hid hn
    rw [← hn] at hb0 ⊢
    clear hn
    rcases Nat.lt_or_ge k l.length with hkl | hkl
    · obtain ⟨b, off, rfl, hb, hc⟩ := h.block (by rintro rfl; simp at hkl)
      have hcell := hc k hkl
      have hu := hl.getD k
      have HL := @bitsOf_low l hl low k hkl
      have HH := @bitsOf_high l hl low k hkl
      clear hc h
      generalize l[k]?.getD 0 = u at hcell hu HL HH
      rcases Nat.lt_or_ge (16 * k) low with hs1 | hs1
      · obtain ⟨s, hs⟩ : ∃ s, s = low - 16 * k := ⟨_, rfl⟩
        have hd : ((16 * (k : Int) - (low : Int)) < 0) := by omega
        have hd2 : (-(16 * (k : Int) - (low : Int))) = (s : Int) := by omega
        have hd3 : ¬ ((s : Int) < 0) := by omega
        have hd4 : (s : Int) < 16 := by omega
        have HLo := Lib.hid HL
        clear HL HH
        go_wp2
        have hk0 : k = low / 16 := by omega
        have hn0 : n = 0 := by rw [HN.out, hk0]; exact bitsOf_start hl
        have e1 : bitsOf l low (k + 1) = u / 2 ^ (low - 16 * k) := HLo.out hs1 (by omega)
        have e2 : u / 2 ^ (low - 16 * k) ≤ u := Nat.div_le_self _ _
        refine ⟨⟨⟨k + 1, by omega, .inl (by omega), by simp, ?_⟩, rfl⟩, by simp [intOf]; omega⟩
        rw [e1, show ((u : Int) / 2 ^ (low - 16 * k)) = ((u / 2 ^ (low - 16 * k) : Nat) : Int) from by simp, IntWalk.wrap64_in _ (by omega), hn0]
        exact congrArg (Value.int .i64) ((bits_or_i64_nat 0 _ (by omega) (by omega)).trans (by simp))
      · obtain ⟨s, hs⟩ : ∃ s, s = 16 * k - low := ⟨_, rfl⟩
        have hd : 16 * (k : Int) - (low : Int) = (s : Int) := by omega
        have hd3 : ¬ ((s : Int) < 0) := by omega
        have hd4 : (s : Int) < 64 := by omega
        have HHi := Lib.hid HH
        clear HL HH
        go_wp2
        obtain ⟨e1, e2⟩ := HHi.out hs1
        rw [← HN.out] at e1 e2
        have e3 : u * 2 ^ (16 * k - low) < 4611686018427387904 := by omega
        refine ⟨⟨⟨k + 1, by omega, .inl (by omega), by simp, ?_⟩, rfl⟩, by simp [intOf]; omega⟩
        rw [e1, show ((u : Int) * 2 ^ (16 * k - low)) = ((u * 2 ^ (16 * k - low) : Nat) : Int) from by simp, IntWalk.wrap64_in _ (by omega), bits_or_i64_nat _ _ (by omega) (by omega), or_high e2]
    · go_wp2
      go_ret
      have e := HN.out
      rw [bitsOf_all hkl] at e
      subst e
      exact ⟨rfl, rfl⟩

end Go.Proofs.Ytodmbklednehbaa
