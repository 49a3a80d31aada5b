/-
'sizeOf': the number that digits make.
-/
import Derived.Test.YtodmbklednehbaaAre
import Derived.Test.YtodmbklednehbaaCombine
import Derived.Test.YtodmbklednehbaaSmall
import Derived.Outline
import Derived.Lib.IndexBytes
namespace Go.Proofs.Ytodmbklednehbaa
open Go.RowKit Wh

def dv (l : List UInt8) : Nat := l.foldl (fun v c => 10 * v + (c.toNat - 48)) 0
theorem dv_snoc (l : List UInt8) (c : UInt8) : dv (l ++ [c]) = 10 * dv l + (c.toNat - 48) := by simp [dv]
theorem dv_fold (l : List UInt8) : ∀ v, l.foldl (fun v c => 10 * v + (c.toNat - 48)) v = v * 10 ^ l.length + dv l := by
  induction l with
  | nil => intro v; simp [dv]
  | cons c l ih =>
    intro v
    have e : dv (c :: l) = (c.toNat - 48) * 10 ^ l.length + dv l := by
      show l.foldl _ (10 * 0 + (c.toNat - 48)) = _
      rw [ih]; simp
    rw [List.foldl_cons, ih, e, List.length_cons, Nat.pow_succ, Nat.add_mul, Nat.add_assoc, Nat.mul_comm 10 v, Nat.mul_assoc, Nat.mul_comm 10 (10 ^ l.length)]
theorem dv_append (a b : List UInt8) : dv (a ++ b) = dv a * 10 ^ b.length + dv b := by
  show (a ++ b).foldl _ 0 = _
  rw [List.foldl_append, dv_fold]; rfl
theorem dv_lt (l : List UInt8) (h : ∀ c ∈ l, isDig c = true) : dv l < 10 ^ l.length := by
  induction l with
  | nil => simp [dv]
  | cons c l ih =>
    have h1 := ih fun x hx => h x (by simp [hx])
    have h2 := h c (by simp)
    simp only [isDig, Bool.and_eq_true, decide_eq_true_eq] at h2
    have e : dv (c :: l) = (c.toNat - 48) * 10 ^ l.length + dv l := by
      show l.foldl _ (10 * 0 + (c.toNat - 48)) = _
      rw [dv_fold]; simp
    have h3 : (c.toNat - 48) * 10 ^ l.length ≤ 9 * 10 ^ l.length := Nat.mul_le_mul_right _ (by omega)
    rw [e, List.length_cons, Nat.pow_succ]
    omega

/-- In a group: after k of its digits. -/
def GrRel (t : ByteArray) (n : Nat) (g i : Value) : Prop := ∃ k : Nat, k ≤ n ∧ i = .int .i64 (k : Int) ∧ g = .int .u64 ((dv (t.data.toList.take k) : Nat) : Int)

/-- Between groups: t is what is left. -/
def SzRel (s : ByteArray) (w : World) (t v : Value) (wr : World) : Prop :=
  ∃ (r : ByteArray) (pre : List UInt8), s.data.toList = pre ++ r.data.toList ∧ (pre = [] ∨ r.size % 12 = 0) ∧ t = .string r ∧ LimF w.heap.size wr v (dig (dv pre)) ∧ Below w.heap.size w wr

theorem gr_step {t : ByteArray} {k : Nat} (h : k < t.size) (hd : ∀ c ∈ t.data.toList, isDig c = true) (hk : k < 12) :
    ((dv (t.data.toList.take (k + 1)) : Nat) : Int) = 10 * ((dv (t.data.toList.take k) : Nat) : Int) + ((t[k].toNat : Int) - 48) ∧ dv (t.data.toList.take k) < 100000000000 ∧ 48 ≤ t[k].toNat ∧ t[k].toNat ≤ 57 := by
  have hk' : k < t.data.toList.length := by simpa using h
  have e : t.data.toList[k] = t[k] := rfl
  have hc := hd t[k] (by rw [← e]; exact List.getElem_mem hk')
  simp only [isDig, Bool.and_eq_true, decide_eq_true_eq] at hc
  have hl := dv_lt (t.data.toList.take k) fun c hc => hd c (List.mem_of_mem_take hc)
  rw [List.length_take, Nat.min_eq_left (Nat.le_of_lt hk')] at hl
  have hp : 10 ^ k ≤ 10 ^ 11 := Nat.pow_le_pow_right (by omega) (by omega)
  refine ⟨?_, by omega, hc⟩
  rw [List.take_succ_eq_append_getElem hk', dv_snoc, e]
  omega

set_option maxRecDepth 100000 in
set_option maxHeartbeats 4000000 in
theorem sizeOf_any (s : ByteArray) (hs : s.size ≤ 5120) (hd : ∀ c ∈ s.data.toList, isDig c = true) (w : World) :
    Calls Try.prog 51 #[.string s] w fun e w' => (∃ v, e = .returned v ∧ LimF w.heap.size w' v (dig (dv s.data.toList))) ∧ Below w.heap.size w w' := by
  have HD := Lib.hid hd
  clear hd
  go_enter Try.func51, Try.ntmps51
  go_wp2
  go_loopw [0, 3] (fun t v wr => SzRel s w t v wr) (fun t _ _ => match t with | .string r => r.size | _ => 0)
  case atStart => exact ⟨s, [], rfl, .inl rfl, rfl, by rw [show dv [] = 0 from rfl, dig_zero]; exact LimF.nil _ _, Below.refl _ _⟩
  case round =>
    obtain ⟨r, pre, e, hm, rfl, hv, hB⟩ := hrel
    have HE := Lib.hid e
    have hsz : pre.length + r.size = s.size := by have := congrArg List.length e; simp at this; omega
    clear e
    by_cases h0 : 0 < r.size
    · obtain ⟨n, hn⟩ : ∃ n : Nat, n = (r.size - 1) % 12 + 1 := ⟨_, rfl⟩
      have hn' : ((r.size : Int) - 1) % 12 + 1 = (n : Int) := by omega
      have HN' := Lib.hid hn'
      have HN := Lib.hid hn
      have HM := Lib.hid hm
      have HV := Lib.hid hv
      have n1 : 0 < n := by omega
      have n2 : n ≤ 12 := by omega
      have n3 : n ≤ r.size := by omega
      clear hn hn' hm hv
      have HR := Lib.hid (fun c (hc : c ∈ r.data.toList) => HD.out c (by rw [HE.out]; exact List.mem_append.2 (.inr hc)))
      go_wp2
      rw [HN'.out]
      go_loop [5, 16] (fun g i => GrRel r n g i) (fun _ i => n - (intOf i).toNat)
      case atStart => exact ⟨0, Nat.zero_le _, rfl, rfl⟩
      case round =>
        obtain ⟨k, hk, rfl, rfl⟩ := hrel
        by_cases hkn : k < n
        · obtain ⟨e1, e2, e3, e4⟩ := gr_step (t := r) (k := k) (by omega) HR.out (by omega)
          have hkr : k < r.size := by omega
          obtain ⟨g, hg⟩ : ∃ g, g = dv (r.data.toList.take k) := ⟨_, rfl⟩
          rw [← hg] at e1 e2 ⊢
          obtain ⟨d, hd⟩ : ∃ d, d = r[k].toNat := ⟨_, rfl⟩
          rw [← hd] at e1 e3 e4
          have E1 := Lib.hid e1
          have HD2 := Lib.hid hd
          clear e1 hg hd
          go_wp2
          refine ⟨⟨k + 1, by omega, by go_num, ?_⟩, by simp [intOf]; omega⟩
          have hd := HD2.out
          rw [E1.out, ← hd]
          congr 1
          omega
        · have hkn' : k = n := by omega
          subst hkn'
          have hlr : r.data.toList.length = r.size := by simp
          have hlt : (r.data.toList.take k).length = k := by rw [List.length_take]; omega
          have hG1 := dv_lt (r.data.toList.take k) fun c hc => HR.out c (List.mem_of_mem_take hc)
          rw [hlt] at hG1
          have hG2 : 10 ^ k ≤ 10 ^ 12 := Nat.pow_le_pow_right (by omega) n2
          have hP1 := dv_lt pre fun c hc => HD.out c (by rw [HE.out]; exact List.mem_append.2 (.inl hc))
          have hP2 : (dig (dv pre)).length ≤ pre.length := (length_dig_le _ _).2 (Nat.lt_of_lt_of_le hP1 (Nat.pow_le_pow_left (by omega) _))
          have hval : dv (pre ++ r.data.toList.take k) = dv pre * 1000000000000 + dv (r.data.toList.take k) := by
            rw [dv_append, hlt]
            rcases HM.out with h | h
            · rw [h]; simp [dv]
            · rw [show k = 12 by have := HN.out; omega]
          have HVAL := Lib.hid hval
          obtain ⟨G, hG⟩ : ∃ G, G = dv (r.data.toList.take k) := ⟨_, rfl⟩
          rw [← hG] at hG1 ⊢
          have HG := Lib.hid hG
          have HLm := Lib.hid (fun W => limbsOf_any G (by omega) W)
          have hGl : (dig G).length ≤ 4 := (length_dig_le _ 4).2 (Nat.lt_of_lt_of_le hG1 (by omega))
          have HC := Lib.hid (fun vb W (h : Lim W u3 (dig (dv pre))) (g : Lim W vb (dig G)) => combine_any u3 vb (dig (dv pre)) (dig G) 1000000000000 1 (dig_Lm _) (dig_Lm _) (by omega) (by omega) (by omega) (by omega) (by omega) (by omega) (by omega) W h g)
          clear hlr hlt hG1 hG2 hP1 hP2 hval hG hGl
          go_wp2_with (first
            | (go_at_call 58; refine (HLm.out _).mono ?_; rintro e w2 ⟨⟨v2, rfl, hv2⟩, hb2⟩; have hu := HV.out.1.below hb2 (Nat.le_refl _); have hB2 := hB.trans (hb2.mono hB.size))
            | (go_at_call 57; refine (HC.out _ _ hu hv2.1).mono ?_; rintro e w3 ⟨⟨v3, rfl, hv3⟩, hb3⟩; have hB3 := hB2.trans (hb3.mono hB2.size); clear hb3 hu hv2 hb2))
          have hl := Lib.extract_to_end r k
          have hsz2 : (r.extract k r.size).size = r.size - k := by simp
          refine ⟨⟨r.extract k r.size, pre ++ r.data.toList.take k, ?_, .inr ?_, rfl, ?_, hB3⟩, ?_⟩
          · rw [HE.out, hl, List.append_assoc, List.take_append_drop]
          · have := HN.out
            rw [hsz2]; omega
          · have e : (((val (dig (dv pre)) : Nat) : Int) * 1000000000000 + ((val (dig G) : Nat) : Int) * 1).toNat = dv (pre ++ r.data.toList.take k) := by
              rw [val_dig, val_dig, HVAL.out, ← HG.out]; omega
            rw [e] at hv3
            exact hv3.mono hB2.size
          · show (r.extract k r.size).size < r.size
            omega
    · have HV := Lib.hid hv
      clear hv
      go_wp2
      go_ret
      have hlr : r.data.toList.length = r.size := by simp
      have e0 : r.data.toList = [] := List.length_eq_zero_iff.1 (by omega)
      have e := HE.out
      rw [e0, List.append_nil] at e
      rw [e]
      exact ⟨⟨_, rfl, HV.out⟩, hB⟩

end Go.Proofs.Ytodmbklednehbaa
