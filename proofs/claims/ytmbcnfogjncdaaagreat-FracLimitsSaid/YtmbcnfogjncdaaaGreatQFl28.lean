/- A part of the proofs about fractions. -/
import Derived.Laws.IdiomStrings
import Derived.Laws.Strings
import Derived.Lib.IndexBytes
import Derived.Outline
import Derived.Test.YtmbcnfogjncdaaaGreatQFl1
import Derived.Test.YtmbcnfogjncdaaaGreatQFl10
import Derived.Test.YtmbcnfogjncdaaaGreatQFl11
import Derived.Test.YtmbcnfogjncdaaaGreatQFl13
import Derived.Test.YtmbcnfogjncdaaaGreatQFl14
import Derived.Test.YtmbcnfogjncdaaaGreatQFl18
import Derived.Test.YtmbcnfogjncdaaaGreatQFl19
import Derived.Test.YtmbcnfogjncdaaaGreatQFl2
import Derived.Test.YtmbcnfogjncdaaaGreatQFl3
set_option maxRecDepth 100000
set_option maxHeartbeats 4000000
namespace Go.Proofs.YtmbcnfogjncdaaaGreat
open Go.RowKit Wh
def dv (l : List UInt8) : Nat := l.foldl (fun v c => 10 * v + (c.toNat - 48)) 0
theorem dv_snoc (l : List UInt8) (c : UInt8) : dv (l ++ [c]) = 10 * dv l + (c.toNat - 48) := by simp [dv]
theorem dv_fold (l : List UInt8) : ∀ v, l.foldl (fun v c => 10 * v + (c.toNat - 48)) v = v * 10 ^ l.length + dv l := by
 induction l with
 | nil => intro v; simp [dv]
 | cons c l ih =>
  intro v
  have e : dv (c :: l) = (c.toNat - 48) * 10 ^ l.length + dv l := by
   show l.foldl _ (10 * 0 + (c.toNat - 48)) = _
   rw [ih]; simp
  rw [List.foldl_cons, ih, e, List.length_cons, Nat.pow_succ, Nat.add_mul, Nat.add_assoc, Nat.mul_comm 10 v, Nat.mul_assoc, Nat.mul_comm 10 (10 ^ l.length)]
theorem dv_append (a b : List UInt8) : dv (a ++ b) = dv a * 10 ^ b.length + dv b := by
 show (a ++ b).foldl _ 0 = _
 rw [List.foldl_append, dv_fold]; rfl
theorem dv_lt (l : List UInt8) (h : ∀ c ∈ l, isDig c = true) : dv l < 10 ^ l.length := by
 induction l with
 | nil => simp [dv]
 | cons c l ih =>
  have h1 := ih fun x hx => h x (by simp [hx])
  have h2 := h c (by simp)
  simp only [isDig, Bool.and_eq_true, decide_eq_true_eq] at h2
  have e : dv (c :: l) = (c.toNat - 48) * 10 ^ l.length + dv l := by
   show l.foldl _ (10 * 0 + (c.toNat - 48)) = _
   rw [dv_fold]; simp
  have h3 : (c.toNat - 48) * 10 ^ l.length ≤ 9 * 10 ^ l.length := Nat.mul_le_mul_right _ (by omega)
  rw [e, List.length_cons, Nat.pow_succ]
  omega
def GrRel (t : ByteArray) (n : Nat) (g i : Value) : Prop := ∃ k : Nat, k ≤ n ∧ i = .int .i64 (k : Int) ∧ g = .int .u64 ((dv (t.data.toList.take k) : Nat) : Int)
def SzRel (s : ByteArray) (w : World) (t v : Value) (wr : World) : Prop :=
 ∃ (r : ByteArray) (pre : List UInt8), s.data.toList = pre ++ r.data.toList ∧ (pre = [] ∨ r.size % 12 = 0) ∧ t = .string r ∧ LimF w.heap.size wr v (dig (dv pre)) ∧ Below w.heap.size w wr
theorem gr_step {t : ByteArray} {k : Nat} (h : k < t.size) (hd : ∀ c ∈ t.data.toList, isDig c = true) (hk : k < 12) :
  ((dv (t.data.toList.take (k + 1)) : Nat) : Int) = 10 * ((dv (t.data.toList.take k) : Nat) : Int) + ((t[k].toNat : Int) - 48) ∧ dv (t.data.toList.take k) < 100000000000 ∧ 48 ≤ t[k].toNat ∧ t[k].toNat ≤ 57 := by
 have hk' : k < t.data.toList.length := by simpa using h
 have e : t.data.toList[k] = t[k] := rfl
 have hc := hd t[k] (by rw [← e]; exact List.getElem_mem hk')
 simp only [isDig, Bool.and_eq_true, decide_eq_true_eq] at hc
 have hl := dv_lt (t.data.toList.take k) fun c hc => hd c (List.mem_of_mem_take hc)
 rw [List.length_take, Nat.min_eq_left (Nat.le_of_lt hk')] at hl
 have hp : 10 ^ k ≤ 10 ^ 11 := Nat.pow_le_pow_right (by omega) (by omega)
 refine ⟨?_, by omega, hc⟩
 rw [List.take_succ_eq_append_getElem hk', dv_snoc, e]
 omega
theorem sizeOf_any (s : ByteArray) (hs : s.size ≤ 5120) (hd : ∀ c ∈ s.data.toList, isDig c = true) (w : World) :
    Calls Tryz.prog 57 #[.string s] w fun e w' => (∃ v, e = .returned v ∧ LimF w.heap.size w' v (dig (dv s.data.toList))) ∧ Below w.heap.size w w' := by
  have HD := Lib.hid hd
  clear hd
  go_enter Tryz.func57, Tryz.ntmps57
  go_wp2
  go_loopw [0, 3] (fun t v wr => SzRel s w t v wr) (fun t _ _ => match t with | .string r => r.size | _ => 0)
  case atStart => exact ⟨s, [], rfl, .inl rfl, rfl, by rw [show dv [] = 0 from rfl, dig_zero]; exact LimF.nil _ _, Below.refl _ _⟩
  case round =>
    obtain ⟨r, pre, e, hm, rfl, hv, hB⟩ := hrel
    have HE := Lib.hid e
    have hsz : pre.length + r.size = s.size := by have := congrArg List.length e; simp at this; omega
    clear e
    by_cases h0 : 0 < r.size
    · obtain ⟨n, hn⟩ : ∃ n : Nat, n = (r.size - 1) % 12 + 1 := ⟨_, rfl⟩
      have hn' : ((r.size : Int) - 1) % 12 + 1 = (n : Int) := by omega
      have HN' := Lib.hid hn'
      have HN := Lib.hid hn
      have HM := Lib.hid hm
      have HV := Lib.hid hv
      have n1 : 0 < n := by omega
      have n2 : n ≤ 12 := by omega
      have n3 : n ≤ r.size := by omega
      clear hn hn' hm hv
      have HR := Lib.hid (fun c (hc : c ∈ r.data.toList) => HD.out c (by rw [HE.out]; exact List.mem_append.2 (.inr hc)))
      go_wp2
      rw [HN'.out]
      go_loop [5, 16] (fun g i => GrRel r n g i) (fun _ i => n - (intOf i).toNat)
      case atStart => exact ⟨0, Nat.zero_le _, rfl, rfl⟩
      case round =>
        obtain ⟨k, hk, rfl, rfl⟩ := hrel
        by_cases hkn : k < n
        · obtain ⟨e1, e2, e3, e4⟩ := gr_step (t := r) (k := k) (by omega) HR.out (by omega)
          have hkr : k < r.size := by omega
          obtain ⟨g, hg⟩ : ∃ g, g = dv (r.data.toList.take k) := ⟨_, rfl⟩
          rw [← hg] at e1 e2 ⊢
          obtain ⟨d, hd⟩ : ∃ d, d = r[k].toNat := ⟨_, rfl⟩
          rw [← hd] at e1 e3 e4
          have E1 := Lib.hid e1
          have HD2 := Lib.hid hd
          clear e1 hg hd
          go_wp2
          refine ⟨⟨k + 1, by omega, by go_num, ?_⟩, by simp [intOf]; omega⟩
          have hd := HD2.out
          rw [E1.out, ← hd]
          congr 1
          omega
        · have hkn' : k = n := by omega
          subst hkn'
          have hlr : r.data.toList.length = r.size := by simp
          have hlt : (r.data.toList.take k).length = k := by rw [List.length_take]; omega
          have hG1 := dv_lt (r.data.toList.take k) fun c hc => HR.out c (List.mem_of_mem_take hc)
          rw [hlt] at hG1
          have hG2 : 10 ^ k ≤ 10 ^ 12 := Nat.pow_le_pow_right (by omega) n2
          have hP1 := dv_lt pre fun c hc => HD.out c (by rw [HE.out]; exact List.mem_append.2 (.inl hc))
          have hP2 : (dig (dv pre)).length ≤ pre.length := (length_dig_le _ _).2 (Nat.lt_of_lt_of_le hP1 (Nat.pow_le_pow_left (by omega) _))
          have hval : dv (pre ++ r.data.toList.take k) = dv pre * 1000000000000 + dv (r.data.toList.take k) := by
            rw [dv_append, hlt]
            rcases HM.out with h | h
            · rw [h]; simp [dv]
            · rw [show k = 12 by have := HN.out; omega]
          have HVAL := Lib.hid hval
          obtain ⟨G, hG⟩ : ∃ G, G = dv (r.data.toList.take k) := ⟨_, rfl⟩
          rw [← hG] at hG1 ⊢
          have HG := Lib.hid hG
          have HLm := Lib.hid (fun W => limbsOf_any G (by omega) W)
          have hGl : (dig G).length ≤ 4 := (length_dig_le _ 4).2 (Nat.lt_of_lt_of_le hG1 (by omega))
          have HC := Lib.hid (fun vb W (h : Lim W u3 (dig (dv pre))) (g : Lim W vb (dig G)) => combine_any u3 vb (dig (dv pre)) (dig G) 1000000000000 1 (dig_Lm _) (dig_Lm _) (by omega) (by omega) (by omega) (by omega) (by omega) (by omega) (by omega) W h g)
          clear hlr hlt hG1 hG2 hP1 hP2 hval hG hGl
          go_wp2_with (first
            | (go_at_call 65; refine (HLm.out _).mono ?_; rintro e w2 ⟨⟨v2, rfl, hv2⟩, hb2⟩; have hu := HV.out.1.below hb2 (Nat.le_refl _); have hB2 := hB.trans (hb2.mono hB.size))
            | (go_at_call 131; refine (HC.out _ _ hu hv2.1).mono ?_; rintro e w3 ⟨⟨v3, rfl, hv3⟩, hb3⟩; have hB3 := hB2.trans (hb3.mono hB2.size); clear hb3 hu hv2 hb2))
          have hl := Lib.extract_to_end r k
          have hsz2 : (r.extract k r.size).size = r.size - k := by simp
          refine ⟨⟨r.extract k r.size, pre ++ r.data.toList.take k, ?_, .inr ?_, rfl, ?_, hB3⟩, ?_⟩
          · rw [HE.out, hl, List.append_assoc, List.take_append_drop]
          · have := HN.out
            rw [hsz2]; omega
          · have e : (((val (dig (dv pre)) : Nat) : Int) * 1000000000000 + ((val (dig G) : Nat) : Int) * 1).toNat = dv (pre ++ r.data.toList.take k) := by
              rw [val_dig, val_dig, HVAL.out, ← HG.out]; omega
            rw [e] at hv3
            exact hv3.mono hB2.size
          · show (r.extract k r.size).size < r.size
            omega
    · have HV := Lib.hid hv
      clear hv
      go_wp2
      go_ret
      have hlr : r.data.toList.length = r.size := by simp
      have e0 : r.data.toList = [] := List.length_eq_zero_iff.1 (by omega)
      have e := HE.out
      rw [e0, List.append_nil] at e
      rw [e]
      exact ⟨⟨_, rfl, HV.out⟩, hB⟩
end Go.Proofs.YtmbcnfogjncdaaaGreat
namespace Go.Proofs.YtmbcnfogjncdaaaGreat
open Go.RowKit Wh
theorem gcd_le_left (a b : Int) (h : a ≠ 0) : Int.gcd a b ≤ a.natAbs := Nat.gcd_le_left _ (Int.natAbs_pos.2 h)
end Go.Proofs.YtmbcnfogjncdaaaGreat
namespace Go.Proofs.YtmbcnfogjncdaaaGreat
open Go.RowKit Wh
theorem are_pure (d : ByteArray) (b : Bool) (hs : d.size ≤ maxLen) (hb : (d.data.toList.all isDig && decide (0 < d.size)) = b) (w : World) :
  Calls Tryz.prog 56 #[.string d] w fun e w' => e = .returned (.bool b) ∧ w = w' := by
 subst hb; exact areDigits_any d hs w
theorem size_made (d : ByteArray) (n : Nat) (hs : d.size ≤ 5120) (hd : ∀ c ∈ d.data.toList, isDig c = true) (hn : n = dv d.data.toList) (w : World) :
  Calls Tryz.prog 57 #[.string d] w fun e w' => (∃ a c, e = .returned (.slice a (dig n).length c) ∧ LimF w.heap.size w' (.slice a (dig n).length c) (dig n)) ∧ Below w.heap.size w w' := by
 subst hn
 refine (sizeOf_any d hs hd w).mono ?_
 rintro e w' ⟨⟨v, rfl, hl⟩, hB⟩
 obtain ⟨a, c, rfl⟩ := lf_slice hl
 exact ⟨⟨a, c, rfl, hl⟩, hB⟩
theorem parse_pos_digits (s d : ByteArray) (h0 : 0 < s.size) (hc : ((s[0].toNat : Int) == 45) = false) (hd : s = d) (hdl : d.size ≤ maxLen) (ha : (d.data.toList.all isDig && decide (0 < d.size)) = false) (w : World) :
  Calls Tryz.prog 16 #[.string s] w fun e w' => e = .returned (.tuple #[zeroW, .int .i64 10]) ∧ Below w.heap.size w w' := by
 have HA := Lib.hid (fun W => are_pure d _ hdl ha W)
 have hz2 := (Below.refl w.heap.size w).alloc (Nat.le_refl _) (.cells #[.bool false, .slice none 0 0] 24)
 have HD := Lib.hid hd
 subst hd
 clear ha HD
 go_enter Tryz.func16, Tryz.ntmps16
 go_wp2_with fail
 refine (HA.out _).mono ?_
 rintro e w2 ⟨rfl, rfl⟩
 go_wp2
 exact bodyPost_ret (v := .tuple #[zeroW, .int .i64 10]) (by simp [results, Tryz.results16, go_sem]) rfl ⟨rfl, hz2⟩
theorem parse_pos_zero (s d : ByteArray) (h0 : 0 < s.size) (hd : s = d) (hdl : d.size ≤ maxLen) (ha : (d.data.toList.all isDig && decide (0 < d.size)) = true) (hd0 : 0 < d.size) (hz : d[0].toNat = 48) (hne : (s.toList == [48]) = false) (w : World) :
  Calls Tryz.prog 16 #[.string s] w fun e w' => e = .returned (.tuple #[zeroW, .int .i64 10]) ∧ Below w.heap.size w w' := by
 have HA := Lib.hid (fun W => are_pure d _ hdl ha W)
 have hz2 := (Below.refl w.heap.size w).alloc (Nat.le_refl _) (.cells #[.bool false, .slice none 0 0] 24)
 have HD := Lib.hid hd
 subst hd
 clear ha HD
 go_enter Tryz.func16, Tryz.ntmps16
 go_wp2_with fail
 refine (HA.out _).mono ?_
 rintro e w2 ⟨rfl, rfl⟩
 go_wp2
 exact bodyPost_ret (v := .tuple #[zeroW, .int .i64 10]) (by simp [results, Tryz.results16, go_sem]) rfl ⟨rfl, hz2⟩
theorem parse_pos_wide (s d : ByteArray) (h0 : 0 < s.size) (hc : ((s[0].toNat : Int) == 45) = false) (hd : s = d) (hdl : d.size ≤ maxLen) (ha : (d.data.toList.all isDig && decide (0 < d.size)) = true) (hd0 : 0 < d.size) (hz : ((d[0].toNat : Int) == 48) = false) (hw : 5120 < (d.size : Int)) (w : World) :
  Calls Tryz.prog 16 #[.string s] w fun e w' => e = .returned (.tuple #[zeroW, .int .i64 3]) ∧ Below w.heap.size w w' := by
 have HA := Lib.hid (fun W => are_pure d _ hdl ha W)
 have hz2 := (Below.refl w.heap.size w).alloc (Nat.le_refl _) (.cells #[.bool false, .slice none 0 0] 24)
 have HD := Lib.hid hd
 subst hd
 clear ha HD
 go_enter Tryz.func16, Tryz.ntmps16
 go_wp2_with fail
 refine (HA.out _).mono ?_
 rintro e w2 ⟨rfl, rfl⟩
 go_wp2
 exact bodyPost_ret (v := .tuple #[zeroW, .int .i64 3]) (by simp [results, Tryz.results16, go_sem]) rfl ⟨rfl, hz2⟩
theorem parse_pos_long (s d : ByteArray) (hs : s.size ≤ 9223372036854775807) (h0 : 0 < s.size) (hc : ((s[0].toNat : Int) == 45) = false) (hd : s = d) (hdl : d.size ≤ maxLen) (ha : (d.data.toList.all isDig && decide (0 < d.size)) = true) (hd0 : 0 < d.size) (hz : ((d[0].toNat : Int) == 48) = false) (hw : ¬ 5120 < (d.size : Int)) (n : Nat) (hn : n = dv d.data.toList) (hl : 1024 < (dig n).length) (w : World) :
  Calls Tryz.prog 16 #[.string s] w fun e w' => e = .returned (.tuple #[zeroW, .int .i64 3]) ∧ Below w.heap.size w w' := by
 have HA := Lib.hid (fun W => are_pure d _ hdl ha W)
 have hz2 := (Below.refl w.heap.size w).alloc (Nat.le_refl _) (.cells #[.bool false, .slice none 0 0] 24)
 have HS := Lib.hid (fun W => size_made d n (by omega) (fun c hc => by have := ha; simp only [Bool.and_eq_true, List.all_eq_true] at this; exact this.1 c hc) hn W)
 obtain ⟨j, hj⟩ : ∃ j, j = (dig n).length := ⟨_, rfl⟩
 rw [← hj] at HS hl
 have hl2 : 1024 < (j : Int) := by omega
 have x0 := Bx.new w (.bool false) (.slice none 0 0)
 clear hn hj
 have HD := Lib.hid hd
 subst hd
 clear ha HD
 go_enter Tryz.func16, Tryz.ntmps16
 go_wp2_with fail
 refine (HA.out _).mono ?_
 rintro e w2 ⟨rfl, rfl⟩
 go_wp2_with fail
 refine (HS.out _).mono ?_
 rintro e w3 ⟨⟨a, c, rfl, hv⟩, hb3⟩
 have hB3 := hz2.trans (hb3.mono hz2.size)
 have x3 := x0.on hb3
 obtain ⟨p3, p3'⟩ := x3.cells
 obtain ⟨f3, f3'⟩ := x3.free
 go_wp2
 obtain ⟨k4, k4'⟩ := (x3.put (.bool false) (.slice none 0 0)).cells
 exact bodyPost_ret (v := .tuple #[zeroW, .int .i64 3]) (by simp [results, Tryz.results16, go_sem, k4, k4']) rfl ⟨rfl, Below.put hB3 (Nat.le_refl _) _ _⟩
theorem parse_pos_ok (s d : ByteArray) (hs : s.size ≤ 9223372036854775807) (h0 : 0 < s.size) (hc : ((s[0].toNat : Int) == 45) = false) (hd : s = d) (hdl : d.size ≤ maxLen) (ha : (d.data.toList.all isDig && decide (0 < d.size)) = true) (hd0 : 0 < d.size) (hz : ((d[0].toNat : Int) == 48) = false) (hw : ¬ 5120 < (d.size : Int)) (n : Nat) (hn : n = dv d.data.toList) (hl : (dig n).length ≤ 1024) (w : World) :
  Calls Tryz.prog 16 #[.string s] w fun e w' => (∃ v, e = .returned (.tuple #[v, .int .i64 0]) ∧ Num w' v ((n : Int))) ∧ Below w.heap.size w w' := by
 have HA := Lib.hid (fun W => are_pure d _ hdl ha W)
 have hz2 := (Below.refl w.heap.size w).alloc (Nat.le_refl _) (.cells #[.bool false, .slice none 0 0] 24)
 have HS := Lib.hid (fun W => size_made d n (by omega) (fun c hc => by have := ha; simp only [Bool.and_eq_true, List.all_eq_true] at this; exact this.1 c hc) hn W)
 obtain ⟨j, hj⟩ : ∃ j, j = (dig n).length := ⟨_, rfl⟩
 rw [← hj] at HS hl
 have HNm := Lib.hid (fun s W (h : Lim W s (dig n)) => number_any false s (dig n) W h)
 have hl2 : ¬ 1024 < (j : Int) := by omega
 have x0 := Bx.new w (.bool false) (.slice none 0 0)
 clear hn hj
 have HD := Lib.hid hd
 subst hd
 clear ha HD
 go_enter Tryz.func16, Tryz.ntmps16
 go_wp2_with fail
 refine (HA.out _).mono ?_
 rintro e w2 ⟨rfl, rfl⟩
 go_wp2_with fail
 refine (HS.out _).mono ?_
 rintro e w3 ⟨⟨a, c, rfl, hv⟩, hb3⟩
 have hB3 := hz2.trans (hb3.mono hz2.size)
 have x3 := x0.on hb3
 obtain ⟨p3, p3'⟩ := x3.cells
 obtain ⟨f3, f3'⟩ := x3.free
 go_wp2_with fail
 refine (HNm.out _ _ hv.1).mono ?_
 rintro e w4 ⟨rfl, hb4⟩
 have hB4 := hB3.trans (hb4.mono hB3.size)
 have hv4 := hv.below hb4
 have x4 := x3.on hb4
 clear p3 p3' f3 f3'
 obtain ⟨p4, p4'⟩ := x4.cells
 obtain ⟨f4, f4'⟩ := x4.free
 go_wp2
 obtain ⟨k4, k4'⟩ := (x4.put (.bool false) (.slice a j c)).cells
 have hl4 := hv4.1.put x4 (.bool false) (.slice a j c)
 exact bodyPost_ret (v := .tuple #[.agg #[.bool false, .slice a j c], .int .i64 0]) (by simp [results, Tryz.results16, go_sem, k4, k4']) rfl ⟨⟨_, rfl, ⟨_, by rw [decide_eq_false (show ¬ (n : Int) < 0 by omega)], by rw [Int.natAbs_natCast]; exact hl4⟩⟩, Below.put hB4 (Nat.le_refl _) _ _⟩
theorem parse_pos_empty (s d : ByteArray) (h0 : s.size = 0) (hd : s = d) (hdl : d.size ≤ maxLen) (ha : (d.data.toList.all isDig && decide (0 < d.size)) = false) (w : World) :
  Calls Tryz.prog 16 #[.string s] w fun e w' => e = .returned (.tuple #[zeroW, .int .i64 10]) ∧ Below w.heap.size w w' := by
 have HA := Lib.hid (fun W => are_pure d _ hdl ha W)
 have hz2 := (Below.refl w.heap.size w).alloc (Nat.le_refl _) (.cells #[.bool false, .slice none 0 0] 24)
 have HD := Lib.hid hd
 subst hd
 clear ha HD
 go_enter Tryz.func16, Tryz.ntmps16
 go_wp2_with fail
 refine (HA.out _).mono ?_
 rintro e w2 ⟨rfl, rfl⟩
 go_wp2
 exact bodyPost_ret (v := .tuple #[zeroW, .int .i64 10]) (by simp [results, Tryz.results16, go_sem]) rfl ⟨rfl, hz2⟩
theorem parse_pos_nought (s d : ByteArray) (hs : s.size ≤ 9223372036854775807) (h0 : 0 < s.size) (hd : s = d) (hdl : d.size ≤ maxLen) (ha : (d.data.toList.all isDig && decide (0 < d.size)) = true) (hd0 : 0 < d.size) (hz : d[0].toNat = 48) (hne : (s.toList == [48]) = true) (hw : ¬ 5120 < (d.size : Int)) (n : Nat) (hn : n = dv d.data.toList) (hl : (dig n).length ≤ 1024) (w : World) :
  Calls Tryz.prog 16 #[.string s] w fun e w' => (∃ v, e = .returned (.tuple #[v, .int .i64 0]) ∧ Num w' v ((n : Int))) ∧ Below w.heap.size w w' := by
 have HA := Lib.hid (fun W => are_pure d _ hdl ha W)
 have hz2 := (Below.refl w.heap.size w).alloc (Nat.le_refl _) (.cells #[.bool false, .slice none 0 0] 24)
 have HS := Lib.hid (fun W => size_made d n (by omega) (fun c hc => by have := ha; simp only [Bool.and_eq_true, List.all_eq_true] at this; exact this.1 c hc) hn W)
 obtain ⟨j, hj⟩ : ∃ j, j = (dig n).length := ⟨_, rfl⟩
 rw [← hj] at HS hl
 have HNm := Lib.hid (fun s W (h : Lim W s (dig n)) => number_any false s (dig n) W h)
 have hl2 : ¬ 1024 < (j : Int) := by omega
 have x0 := Bx.new w (.bool false) (.slice none 0 0)
 clear hn hj
 have HD := Lib.hid hd
 subst hd
 clear ha HD
 go_enter Tryz.func16, Tryz.ntmps16
 go_wp2_with fail
 refine (HA.out _).mono ?_
 rintro e w2 ⟨rfl, rfl⟩
 go_wp2_with fail
 refine (HS.out _).mono ?_
 rintro e w3 ⟨⟨a, c, rfl, hv⟩, hb3⟩
 have hB3 := hz2.trans (hb3.mono hz2.size)
 have x3 := x0.on hb3
 obtain ⟨p3, p3'⟩ := x3.cells
 obtain ⟨f3, f3'⟩ := x3.free
 go_wp2_with fail
 refine (HNm.out _ _ hv.1).mono ?_
 rintro e w4 ⟨rfl, hb4⟩
 have hB4 := hB3.trans (hb4.mono hB3.size)
 have hv4 := hv.below hb4
 have x4 := x3.on hb4
 clear p3 p3' f3 f3'
 obtain ⟨p4, p4'⟩ := x4.cells
 obtain ⟨f4, f4'⟩ := x4.free
 go_wp2
 obtain ⟨k4, k4'⟩ := (x4.put (.bool false) (.slice a j c)).cells
 have hl4 := hv4.1.put x4 (.bool false) (.slice a j c)
 exact bodyPost_ret (v := .tuple #[.agg #[.bool false, .slice a j c], .int .i64 0]) (by simp [results, Tryz.results16, go_sem, k4, k4']) rfl ⟨⟨_, rfl, ⟨_, by rw [decide_eq_false (show ¬ (n : Int) < 0 by omega)], by rw [Int.natAbs_natCast]; exact hl4⟩⟩, Below.put hB4 (Nat.le_refl _) _ _⟩
theorem parse_neg_digits (s d : ByteArray) (hs : s.size ≤ 9223372036854775807) (h0 : 0 < s.size) (hc : s[0].toNat = 45) (hd : s.extract 1 s.size = d) (hdl : d.size ≤ maxLen) (ha : (d.data.toList.all isDig && decide (0 < d.size)) = false) (w : World) :
  Calls Tryz.prog 16 #[.string s] w fun e w' => e = .returned (.tuple #[zeroW, .int .i64 10]) ∧ Below w.heap.size w w' := by
 have HA := Lib.hid (fun W => are_pure d _ hdl ha W)
 have hz2 := (Below.refl w.heap.size w).alloc (Nat.le_refl _) (.cells #[.bool false, .slice none 0 0] 24)
 have HD := Lib.hid hd
 clear hd ha
 go_enter Tryz.func16, Tryz.ntmps16
 go_wp2_with fail
 rw [HD.out]
 refine (HA.out _).mono ?_
 rintro e w2 ⟨rfl, rfl⟩
 go_wp2
 exact bodyPost_ret (v := .tuple #[zeroW, .int .i64 10]) (by simp [results, Tryz.results16, go_sem]) rfl ⟨rfl, hz2⟩
theorem parse_neg_zero (s d : ByteArray) (hs : s.size ≤ 9223372036854775807) (h0 : 0 < s.size) (hc : s[0].toNat = 45) (hd : s.extract 1 s.size = d) (hdl : d.size ≤ maxLen) (ha : (d.data.toList.all isDig && decide (0 < d.size)) = true) (hd0 : 0 < d.size) (hz : d[0].toNat = 48) (hne : (s.toList == [48]) = false) (w : World) :
  Calls Tryz.prog 16 #[.string s] w fun e w' => e = .returned (.tuple #[zeroW, .int .i64 10]) ∧ Below w.heap.size w w' := by
 have HA := Lib.hid (fun W => are_pure d _ hdl ha W)
 have hz2 := (Below.refl w.heap.size w).alloc (Nat.le_refl _) (.cells #[.bool false, .slice none 0 0] 24)
 have HD := Lib.hid hd
 clear hd ha
 go_enter Tryz.func16, Tryz.ntmps16
 go_wp2_with fail
 rw [HD.out]
 refine (HA.out _).mono ?_
 rintro e w2 ⟨rfl, rfl⟩
 go_wp2
 exact bodyPost_ret (v := .tuple #[zeroW, .int .i64 10]) (by simp [results, Tryz.results16, go_sem]) rfl ⟨rfl, hz2⟩
theorem parse_neg_wide (s d : ByteArray) (hs : s.size ≤ 9223372036854775807) (h0 : 0 < s.size) (hc : s[0].toNat = 45) (hd : s.extract 1 s.size = d) (hdl : d.size ≤ maxLen) (ha : (d.data.toList.all isDig && decide (0 < d.size)) = true) (hd0 : 0 < d.size) (hz : ((d[0].toNat : Int) == 48) = false) (hw : 5120 < (d.size : Int)) (w : World) :
  Calls Tryz.prog 16 #[.string s] w fun e w' => e = .returned (.tuple #[zeroW, .int .i64 3]) ∧ Below w.heap.size w w' := by
 have HA := Lib.hid (fun W => are_pure d _ hdl ha W)
 have hz2 := (Below.refl w.heap.size w).alloc (Nat.le_refl _) (.cells #[.bool false, .slice none 0 0] 24)
 have HD := Lib.hid hd
 clear hd ha
 go_enter Tryz.func16, Tryz.ntmps16
 go_wp2_with fail
 rw [HD.out]
 refine (HA.out _).mono ?_
 rintro e w2 ⟨rfl, rfl⟩
 go_wp2
 exact bodyPost_ret (v := .tuple #[zeroW, .int .i64 3]) (by simp [results, Tryz.results16, go_sem]) rfl ⟨rfl, hz2⟩
theorem parse_neg_long (s d : ByteArray) (hs : s.size ≤ 9223372036854775807) (h0 : 0 < s.size) (hc : s[0].toNat = 45) (hd : s.extract 1 s.size = d) (hdl : d.size ≤ maxLen) (ha : (d.data.toList.all isDig && decide (0 < d.size)) = true) (hd0 : 0 < d.size) (hz : ((d[0].toNat : Int) == 48) = false) (hw : ¬ 5120 < (d.size : Int)) (n : Nat) (hn : n = dv d.data.toList) (hl : 1024 < (dig n).length) (w : World) :
  Calls Tryz.prog 16 #[.string s] w fun e w' => e = .returned (.tuple #[zeroW, .int .i64 3]) ∧ Below w.heap.size w w' := by
 have HA := Lib.hid (fun W => are_pure d _ hdl ha W)
 have hz2 := (Below.refl w.heap.size w).alloc (Nat.le_refl _) (.cells #[.bool false, .slice none 0 0] 24)
 have HS := Lib.hid (fun W => size_made d n (by omega) (fun c hc => by have := ha; simp only [Bool.and_eq_true, List.all_eq_true] at this; exact this.1 c hc) hn W)
 obtain ⟨j, hj⟩ : ∃ j, j = (dig n).length := ⟨_, rfl⟩
 rw [← hj] at HS hl
 have hl2 : 1024 < (j : Int) := by omega
 have x0 := Bx.new w (.bool false) (.slice none 0 0)
 clear hn hj
 have HD := Lib.hid hd
 clear hd ha
 go_enter Tryz.func16, Tryz.ntmps16
 go_wp2_with fail
 rw [HD.out]
 refine (HA.out _).mono ?_
 rintro e w2 ⟨rfl, rfl⟩
 go_wp2_with fail
 refine (HS.out _).mono ?_
 rintro e w3 ⟨⟨a, c, rfl, hv⟩, hb3⟩
 have hB3 := hz2.trans (hb3.mono hz2.size)
 have x3 := x0.on hb3
 obtain ⟨p3, p3'⟩ := x3.cells
 obtain ⟨f3, f3'⟩ := x3.free
 go_wp2
 obtain ⟨k4, k4'⟩ := (x3.put (.bool false) (.slice none 0 0)).cells
 exact bodyPost_ret (v := .tuple #[zeroW, .int .i64 3]) (by simp [results, Tryz.results16, go_sem, k4, k4']) rfl ⟨rfl, Below.put hB3 (Nat.le_refl _) _ _⟩
theorem parse_neg_ok (s d : ByteArray) (hs : s.size ≤ 9223372036854775807) (h0 : 0 < s.size) (hc : s[0].toNat = 45) (hd : s.extract 1 s.size = d) (hdl : d.size ≤ maxLen) (ha : (d.data.toList.all isDig && decide (0 < d.size)) = true) (hd0 : 0 < d.size) (hz : ((d[0].toNat : Int) == 48) = false) (hw : ¬ 5120 < (d.size : Int)) (n : Nat) (hn : n = dv d.data.toList) (hl : (dig n).length ≤ 1024) (w : World) :
  Calls Tryz.prog 16 #[.string s] w fun e w' => (∃ v, e = .returned (.tuple #[v, .int .i64 0]) ∧ Num w' v (-(n : Int))) ∧ Below w.heap.size w w' := by
 have HA := Lib.hid (fun W => are_pure d _ hdl ha W)
 have hz2 := (Below.refl w.heap.size w).alloc (Nat.le_refl _) (.cells #[.bool false, .slice none 0 0] 24)
 have HS := Lib.hid (fun W => size_made d n (by omega) (fun c hc => by have := ha; simp only [Bool.and_eq_true, List.all_eq_true] at this; exact this.1 c hc) hn W)
 obtain ⟨j, hj⟩ : ∃ j, j = (dig n).length := ⟨_, rfl⟩
 rw [← hj] at HS hl
 obtain ⟨bb, hbb⟩ : ∃ bb : Bool, bb = decide (-(n : Int) < 0) := ⟨_, rfl⟩
 have hNm := fun s W (h : Lim W s (dig n)) => number_any true s (dig n) W h
 rw [neg_nat_sign, ← hbb] at hNm
 have HNm := Lib.hid hNm
 clear hNm; replace hbb := Lib.hid hbb
 have hl2 : ¬ 1024 < (j : Int) := by omega
 have x0 := Bx.new w (.bool false) (.slice none 0 0)
 clear hn hj
 have HD := Lib.hid hd
 clear hd ha
 go_enter Tryz.func16, Tryz.ntmps16
 go_wp2_with fail
 rw [HD.out]
 refine (HA.out _).mono ?_
 rintro e w2 ⟨rfl, rfl⟩
 go_wp2_with fail
 refine (HS.out _).mono ?_
 rintro e w3 ⟨⟨a, c, rfl, hv⟩, hb3⟩
 have hB3 := hz2.trans (hb3.mono hz2.size)
 have x3 := x0.on hb3
 obtain ⟨p3, p3'⟩ := x3.cells
 obtain ⟨f3, f3'⟩ := x3.free
 go_wp2_with fail
 refine (HNm.out _ _ hv.1).mono ?_
 rintro e w4 ⟨rfl, hb4⟩
 have hB4 := hB3.trans (hb4.mono hB3.size)
 have hv4 := hv.below hb4
 have x4 := x3.on hb4
 clear p3 p3' f3 f3'
 obtain ⟨p4, p4'⟩ := x4.cells
 obtain ⟨f4, f4'⟩ := x4.free
 go_wp2
 obtain ⟨k4, k4'⟩ := (x4.put (.bool bb) (.slice a j c)).cells
 have hl4 := hv4.1.put x4 (.bool bb) (.slice a j c)
 exact bodyPost_ret (v := .tuple #[.agg #[.bool bb, .slice a j c], .int .i64 0]) (by simp [results, Tryz.results16, go_sem, k4, k4']) rfl ⟨⟨_, rfl, ⟨_, by rw [hbb.out], by rw [Int.natAbs_neg, Int.natAbs_natCast]; exact hl4⟩⟩, Below.put hB4 (Nat.le_refl _) _ _⟩
def tneg (l : List UInt8) : Bool := l.head? == some 45
def tds (l : List UInt8) : List UInt8 := if tneg l then l.drop 1 else l
def twf (l : List UInt8) : Bool := (tds l).all isDig && decide (0 < (tds l).length) && !((tds l).head? == some 48 && !(l == [48]))
def tval (l : List UInt8) : Int := if tneg l then -(dv (tds l) : Int) else (dv (tds l) : Int)
end Go.Proofs.YtmbcnfogjncdaaaGreat
namespace Go.Proofs.YtmbcnfogjncdaaaGreat
section
open Go.RowKit Wh
theorem bytes_cons {s : ByteArray} (h : 0 < s.size) : s.data.toList = s[0] :: s.data.toList.drop 1 := by
 have h' : 0 < s.data.toList.length := by simpa using h
 have e := List.drop_eq_getElem_cons h'
 rw [List.drop_zero] at e
 exact e
theorem bytes_empty {s : ByteArray} (h : s.size = 0) : s.data.toList = [] := List.length_eq_zero_iff.1 (by simpa using h)
theorem u8_eq {a : UInt8} {n : Nat} (hn : n < 256) (h : a.toNat = n) : a = UInt8.ofNat n := by
 apply UInt8.toNat_inj.1; simp [h]; omega
theorem wf_head {d : ByteArray} (h : 0 < d.size) : (d.data.toList.head? == some 48) = decide (d[0].toNat = 48) := by
  rw [bytes_cons h, List.head?_cons]
  by_cases e : d[0].toNat = 48
  · rw [u8_eq (by omega) e]; rfl
  · rw [decide_eq_false e]
    refine beq_eq_false_iff_ne.2 fun g => e ?_
    have : d[0] = 48 := Option.some.inj g
    rw [this]; rfl
theorem neg_head {s : ByteArray} (h : 0 < s.size) : tneg s.data.toList = decide (s[0].toNat = 45) := by
  unfold tneg
  rw [bytes_cons h, List.head?_cons]
  by_cases e : s[0].toNat = 45
  · rw [u8_eq (by omega) e]; rfl
  · rw [decide_eq_false e]
    refine beq_eq_false_iff_ne.2 fun g => e ?_
    have : s[0] = 45 := Option.some.inj g
    rw [this]; rfl
def PaOut (l : List UInt8) (e : Ending) (w' : World) : Prop :=
 (twf l = false ∧ e = .returned (.tuple #[zeroW, .int .i64 10])) ∨
 (twf l = true ∧ (5120 < (tds l).length ∨ 1024 < (dig (dv (tds l))).length) ∧ e = .returned (.tuple #[zeroW, .int .i64 3])) ∨
 (twf l = true ∧ (dig (dv (tds l))).length ≤ 1024 ∧ ∃ v, e = .returned (.tuple #[v, .int .i64 0]) ∧ Num w' v (tval l))
theorem wf_of {l : List UInt8} {d : ByteArray} (e : d.data.toList = tds l) : twf l = ((d.data.toList.all isDig && decide (0 < d.size)) && !((d.data.toList.head? == some 48) && !(l == [48]))) := by
 have hl : d.data.toList.length = d.size := by simp
 unfold twf
 rw [← e, hl]
theorem Parse_any (s : ByteArray) (hs : s.size ≤ maxLen) (w : World) :
    Calls Tryz.prog 16 #[.string s] w fun e w' => PaOut s.data.toList e w' ∧ Below w.heap.size w w' := by
  have hs' : s.size ≤ 9223372036854775807 := by unfold maxLen at hs; omega
  have htl : s.toList = s.data.toList := ByteArray.toList_eq s
  by_cases h0 : 0 < s.size
  · have hsz : (s.extract 1 s.size).size = s.size - 1 := by simp
    have hnh := neg_head h0
    by_cases hc : s[0].toNat = 45
    · rw [decide_eq_true hc] at hnh
      obtain ⟨d, hd⟩ : ∃ d, s.extract 1 s.size = d := ⟨_, rfl⟩
      have hdl : d.size ≤ maxLen := by rw [← hd, hsz]; omega
      have hdt : d.data.toList = tds s.data.toList := by rw [← hd, Lib.extract_to_end]; unfold tds; rw [hnh]; rfl
      have htv : tval s.data.toList = -(dv d.data.toList : Int) := by unfold tval; rw [hnh, ← hdt]; rfl
      have hwf := wf_of hdt
      have hlen : d.data.toList.length = d.size := by simp
      have hne : (s.data.toList == [48]) = false := beq_eq_false_iff_ne.2 fun g => by
        have := bytes_cons h0; rw [g] at this; have := (List.cons.inj this).1; rw [← this] at hc; exact absurd hc (by decide)
      cases ha : (d.data.toList.all isDig && decide (0 < d.size)) with
      | false =>
        rw [ha, Bool.false_and] at hwf
        exact (parse_neg_digits s d hs' h0 hc hd hdl ha w).mono fun e w' ⟨h, hB⟩ => ⟨.inl ⟨hwf, h⟩, hB⟩
      | true =>
        have hd0 : 0 < d.size := by have := ha; simp only [Bool.and_eq_true, decide_eq_true_eq] at this; exact this.2
        rw [ha, Bool.true_and, hne, wf_head hd0, Bool.not_false, Bool.and_true] at hwf
        by_cases hz : d[0].toNat = 48
        · rw [decide_eq_true hz] at hwf
          exact (parse_neg_zero s d hs' h0 hc hd hdl ha hd0 hz (by rw [htl]; exact hne) w).mono fun e w' ⟨h, hB⟩ => ⟨.inl ⟨hwf, h⟩, hB⟩
        · rw [decide_eq_false hz] at hwf
          have hz' : ((d[0].toNat : Int) == 48) = false := beq_eq_false_iff_ne.2 (by omega)
          by_cases hw : 5120 < (d.size : Int)
          · exact (parse_neg_wide s d hs' h0 hc hd hdl ha hd0 hz' hw w).mono fun e w' ⟨h, hB⟩ => ⟨.inr (.inl ⟨hwf, .inl (by rw [← hdt]; omega), h⟩), hB⟩
          · rcases Nat.lt_or_ge 1024 (dig (dv d.data.toList)).length with hl | hl
            · exact (parse_neg_long s d hs' h0 hc hd hdl ha hd0 hz' hw _ rfl hl w).mono fun e w' ⟨h, hB⟩ => ⟨.inr (.inl ⟨hwf, .inr (by rw [← hdt]; exact hl), h⟩), hB⟩
            · exact (parse_neg_ok s d hs' h0 hc hd hdl ha hd0 hz' hw _ rfl hl w).mono fun e w' ⟨h, hB⟩ => ⟨.inr (.inr ⟨hwf, by rw [← hdt]; exact hl, by rw [htv]; exact h⟩), hB⟩
    · rw [decide_eq_false hc] at hnh
      have hc' : ((s[0].toNat : Int) == 45) = false := beq_eq_false_iff_ne.2 (by omega)
      have hdt : s.data.toList = tds s.data.toList := by unfold tds; rw [hnh]; rfl
      have htv : tval s.data.toList = (dv s.data.toList : Int) := by unfold tval; rw [hnh, ← hdt]; rfl
      have hwf := wf_of hdt
      have hlen : s.data.toList.length = s.size := by simp
      cases ha : (s.data.toList.all isDig && decide (0 < s.size)) with
      | false =>
        rw [ha, Bool.false_and] at hwf
        exact (parse_pos_digits s s h0 hc' rfl hs ha w).mono fun e w' ⟨h, hB⟩ => ⟨.inl ⟨hwf, h⟩, hB⟩
      | true =>
        rw [ha, Bool.true_and, wf_head h0] at hwf
        by_cases hz : s[0].toNat = 48
        · rw [decide_eq_true hz, Bool.true_and, Bool.not_not] at hwf
          cases hne : (s.data.toList == [48]) with
          | false =>
            rw [hne] at hwf
            exact (parse_pos_zero s s h0 rfl hs ha h0 hz (by rw [htl]; exact hne) w).mono fun e w' ⟨h, hB⟩ => ⟨.inl ⟨hwf, h⟩, hB⟩
          | true =>
            rw [hne] at hwf
            have e1 : s.data.toList = [48] := eq_of_beq hne
            have e2 : s.size = 1 := by rw [← hlen, e1]; rfl
            have e3 : dv s.data.toList = 0 := by rw [e1]; rfl
            have hl : (dig (dv s.data.toList)).length ≤ 1024 := by rw [e3, dig_zero]; exact Nat.zero_le _
            exact (parse_pos_nought s s hs' h0 rfl hs ha h0 hz (by rw [htl]; exact hne) (by omega) _ rfl hl w).mono fun e w' ⟨h, hB⟩ => ⟨.inr (.inr ⟨hwf, by rw [← hdt]; exact hl, by rw [htv]; exact h⟩), hB⟩
        · rw [decide_eq_false hz, Bool.false_and] at hwf
          have hz' : ((s[0].toNat : Int) == 48) = false := beq_eq_false_iff_ne.2 (by omega)
          by_cases hw : 5120 < (s.size : Int)
          · exact (parse_pos_wide s s h0 hc' rfl hs ha h0 hz' hw w).mono fun e w' ⟨h, hB⟩ => ⟨.inr (.inl ⟨hwf, .inl (by rw [← hdt]; omega), h⟩), hB⟩
          · rcases Nat.lt_or_ge 1024 (dig (dv s.data.toList)).length with hl | hl
            · exact (parse_pos_long s s hs' h0 hc' rfl hs ha h0 hz' hw _ rfl hl w).mono fun e w' ⟨h, hB⟩ => ⟨.inr (.inl ⟨hwf, .inr (by rw [← hdt]; exact hl), h⟩), hB⟩
            · exact (parse_pos_ok s s hs' h0 hc' rfl hs ha h0 hz' hw _ rfl hl w).mono fun e w' ⟨h, hB⟩ => ⟨.inr (.inr ⟨hwf, by rw [← hdt]; exact hl, by rw [htv]; exact h⟩), hB⟩
  · have h1 : s.size = 0 := by omega
    have e := bytes_empty h1
    have hwf : twf s.data.toList = false := by rw [e]; rfl
    exact (parse_pos_empty s s h1 rfl hs (by rw [h1]; simp) w).mono fun e w' ⟨h, hB⟩ => ⟨.inl ⟨hwf, h⟩, hB⟩
end
section
open Go.RowKit Wh
def Dg (l : List UInt8) : Prop := (∀ c ∈ l, isDig c = true) ∧ l ≠ [] ∧ l.head? ≠ some 48
theorem Dg.wf {l : List UInt8} (h : Dg l) : tneg l = false ∧ tds l = l ∧ twf l = true ∧ tval l = (dv l : Int) := by
 have hn : tneg l = false := by
  obtain ⟨c, t, rfl⟩ := List.exists_cons_of_ne_nil h.2.1
  have := h.1 c (by simp)
  unfold tneg
  refine beq_eq_false_iff_ne.2 fun e => ?_
  rw [List.head?_cons] at e
  rw [Option.some.inj e] at this
  exact absurd this (by decide)
 have hd : tds l = l := by unfold tds; rw [hn]; rfl
 refine ⟨hn, hd, ?_, by unfold tval; rw [hn, hd]; rfl⟩
 unfold twf
 rw [hd, List.all_eq_true.2 h.1, decide_eq_true (List.length_pos_iff.2 h.2.1), beq_eq_false_iff_ne.2 h.2.2]
 rfl
end
section
open Go.RowKit Wh
theorem tds_len (l : List UInt8) : (tds l).length ≤ l.length := by unfold tds; split <;> simp
theorem Num.open1 {W : World} {v : Value} {z : Int} (h : Num W v z) : ∃ b a k c, v = .agg #[.bool b, .slice a k c] := by
 obtain ⟨s, rfl, hl⟩ := h
 obtain ⟨a, c, rfl⟩ := lim_slice hl
 exact ⟨_, _, _, _, rfl⟩
theorem Parse_known (s : ByteArray) (l : List UInt8) (z : Int) (hl : s.data.toList = l) (hn : l.length ≤ 5120) (hw : twf l = true) (hv : tval l = z) (hd : (dig (dv (tds l))).length ≤ 1024) (w : World) :
    Calls Tryz.prog 16 #[.string s] w fun e w' => (∃ b a k c, e = .returned (.tuple #[.agg #[.bool b, .slice a k c], .int .i64 0]) ∧ Num w' (.agg #[.bool b, .slice a k c]) z) ∧ Below w.heap.size w w' := by
  subst hl
  subst hv
  have hsz : s.data.toList.length = s.size := by simp
  refine (Parse_any s (by unfold maxLen; omega) w).mono ?_
  rintro e w' ⟨h, hB⟩
  rcases h with ⟨h, -⟩ | ⟨-, h, -⟩ | ⟨-, -, v, rfl, h⟩
  · rw [hw] at h; cases h
  · have := tds_len s.data.toList; omega
  · obtain ⟨b, a, k, c, rfl⟩ := h.open1
    exact ⟨⟨b, a, k, c, rfl, h⟩, hB⟩
end
end Go.Proofs.YtmbcnfogjncdaaaGreat
namespace Go.Proofs.YtmbcnfogjncdaaaGreat
open Go.RowKit Wh
theorem slCut_at (s : ByteArray) (c : UInt8) (i : Nat) (h : Lib.indexByte s.data.toList c = (i : Int)) (hi : i < s.size) (hs : s.size ≤ maxLen) (w : World) :
  Calls Tryz.prog 149 #[.string s, .string ⟨#[c]⟩] w fun e w' => e = .returned (.tuple #[.string (s.extract 0 i), .string (s.extract (i + 1) s.size), .bool true]) ∧ Below w.heap.size w w' := by
 have hx := fun W => Tryz.stringslite_Index_one s c W
 simp only [h] at hx
 have HI := Lib.hid hx
 have hs' : s.size ≤ 9223372036854775807 := by unfold maxLen at hs; omega
 have hw : IntKind.i64.wrap ((i : Int) + 1) = (i : Int) + 1 := IntWalk.i64_in _ (by omega)
 clear hx h hs
 go_enter Tryz.func149, Tryz.ntmps149
 go_wp2_with fail
 refine (HI.out _).mono ?_
 rintro e w1 ⟨rfl, rfl⟩
 go_wp2_with fail
 refine wp_region_noPanic ?_
 refine wp_region_held_drew (S := (fun _ => True)) (by kernel_rfl) trivial (fun hR0 => ?_)
 change wpAnyH _ _ _ _ _ 12 #[false, false, false, false, false, false, false, false, false, false, false, false] _ _
 refine tz 0 ?_
 (try simp only [Act.put, sa, List.set])
 refine tz 1 ?_
 (try simp only [Act.put, sa, List.set])
 refine tz 3 ?_
 (try simp only [Act.put, sa, List.set])
 refine tz 4 ?_
 (try simp only [Act.put, sa, List.set])
 refine tz 5 ?_
 (try simp only [Act.put, sa, List.set])
 refine tz 6 ?_
 (try simp only [Act.put, sa, List.set])
 refine tk (i := 2) (v := .string (s.extract 0 i)) rfl (by kernel_rfl) (fun _ _ _ h => h) (by rfl) ?_ (by assumption) ?_
 · (intro w hSw; (try dsimp only at hSw); (go_simp; intro hx; exact absurd hx (by omega)))
 (try simp only [Act.put, sa, List.set])
 refine tk (i := 7) (v := .int .i64 ((i : Int) + 1)) rfl (by kernel_rfl) (fun _ _ _ h => h) (by rfl) ?_ (by assumption) ?_
 · (intro w hSw; (try dsimp only at hSw); go_simp)
 (try simp only [Act.put, sa, List.set])
 refine tk (i := 8) (v := .string (s.extract (i + 1) s.size)) rfl (by kernel_rfl) (fun _ _ _ h => h) (by rfl) ?_ (by assumption) ?_
 · (intro w hSw; (try dsimp only at hSw); (go_simp; intro hx; exact absurd (hx (by omega)) (by omega)))
 (try simp only [Act.put, sa, List.set])
 refine tz 9 ?_
 (try simp only [Act.put, sa, List.set])
 refine tz 10 ?_
 (try simp only [Act.put, sa, List.set])
 refine tz 11 ?_
 (try simp only [Act.put, sa, List.set])
 refine wpAnyH_done (by kernel_rfl) ?_ _
 refine NoPanic.normal ?_
 clear hR0
 go_wp2
 exact bodyPost_ret (v := .tuple #[.string (s.extract 0 i), .string (s.extract (i + 1) s.size), .bool true]) (by simp [results, Tryz.results149, go_sem]) rfl ⟨rfl, (Below.refl _ _).drew⟩
theorem Cut_of (s t : ByteArray) (x y : ByteArray) (b : Bool) (w : World) (h : ∀ W, Calls Tryz.prog 149 #[.string s, .string t] W fun e w' => e = .returned (.tuple #[.string x, .string y, .bool b]) ∧ Below W.heap.size W w') :
  Calls Tryz.prog 87 #[.string s, .string t] w fun e w' => e = .returned (.tuple #[.string x, .string y, .bool b]) ∧ Below w.heap.size w w' := by
 have HI := Lib.hid h
 clear h
 go_enter Tryz.func87, Tryz.ntmps87
 go_wp2_with fail
 refine (HI.out _).mono ?_
 rintro e w1 ⟨rfl, hb⟩
 go_wp2
 exact bodyPost_ret (v := .tuple #[.string x, .string y, .bool b]) (by simp [results, Tryz.results87, go_sem]) rfl ⟨rfl, hb⟩
end Go.Proofs.YtmbcnfogjncdaaaGreat
namespace Go.Proofs.YtmbcnfogjncdaaaGreat
open Go.RowKit Wh
theorem pden_ok (s : ByteArray) (w : World) (hpf : Lib.hasPrefix s.data.toList [45] = false) (z : Int) (hz : z ≠ 0 ∧ z ≠ 1) (hp : ∀ W, Below w.heap.size w W → Calls Tryz.prog 16 #[.string s] W fun e w' => (∃ v, e = .returned (.tuple #[v, .int .i64 0]) ∧ Num w' v z) ∧ Below W.heap.size W w') :
  Calls Tryz.prog 88 #[.string s] w fun e w' => (∃ v, e = .returned (.tuple #[v, .int .i64 0]) ∧ Num w' v z) ∧ Below w.heap.size w w' := by
 have hx := fun W => Tryz.strings_HasPrefix s ⟨#[45]⟩ W
 rw [hpf] at hx
 have HX := Lib.hid hx
 clear hx hpf
 have hz1 := fun v W (h : Num W v z) => isZero_num v z W h
 rw [show decide (z = 0) = false from decide_eq_false (by omega)] at hz1
 have HZ := Lib.hid hz1
 clear hz1
 have hz2 := fun v W (h : Num W v z) => isOne_num v z W h
 rw [show decide (z = 1) = false from decide_eq_false (by omega)] at hz2
 have HI := Lib.hid hz2
 clear hz2 hz
 have HP := Lib.hid hp
 clear hp
 have hB := Below.refl w.heap.size w
 obtain ⟨al, xr, hN⟩ := mk hB #[.bool false, .slice none 0 0] 24
 replace hB := hN; clear al hN
 try simp only [World.size_alloc] at xr
 go_enter Tryz.func88, Tryz.ntmps88
 have pr := xr.all2
 go_wp2_with fail
 refine (HX.out _).mono ?_
 rintro e w0 ⟨rfl, rfl⟩
 clear pr
 have pr := xr.all2
 go_wp2_with fail
 clear pr
 refine (HP.out _ hB).mono ?_
 rintro e w1 ⟨⟨v, rfl, gn⟩, hb⟩
 obtain ⟨b1, a1, k1, c1, rfl⟩ := gn.opened
 replace xr := xr.on hb
 have hz1 := hb.size
 try simp at hz1
 replace hB := hB.trans (hb.mono hB.size); clear hb
 obtain ⟨al, xd, hN⟩ := mk hB #[.bool b1, .slice a1 k1 c1] 24
 replace xr := xr.on al; replace gn := gn.on al; replace hB := hN; clear al hN
 try simp only [World.size_alloc] at xd
 have pr := xr.all2
 have pd := xd.all2
 go_wp2_with fail
 clear pr pd
 refine (HZ.out _ _ gn).mono ?_
 rintro e w2 ⟨rfl, hb⟩
 replace xr := xr.on hb; replace xd := xd.on hb; replace gn := gn.on hb
 have hz2 := hb.size
 try simp at hz2
 replace hB := hB.trans (hb.mono hB.size); clear hb
 have pr := xr.all2
 have pd := xd.all2
 go_wp2_with fail
 clear pr pd
 refine (HI.out _ _ gn).mono ?_
 rintro e w3 ⟨rfl, hb⟩
 replace xr := xr.on hb; replace xd := xd.on hb; replace gn := gn.on hb
 have hz3 := hb.size
 try simp at hz3
 replace hB := hB.trans (hb.mono hB.size); clear hb
 have pr := xr.all2
 have pd := xd.all2
 go_wp2_with fail
 clear pr pd xd; replace gn := gn.setB xr rfl 0 (.bool b1)
 replace xr : Bk _ w.heap.size #[.bool b1, .slice none 0 0] _ := xr.put 0 (.bool b1)
 replace hB := hB.setCell (p := ⟨w.heap.size, 0, none⟩) (by first | omega | (simp; omega) | simp) (.bool b1); replace gn := gn.setB xr rfl 1 (.slice a1 k1 c1)
 replace xr : Bk _ w.heap.size #[.bool b1, .slice a1 k1 c1] _ := xr.put 1 (.slice a1 k1 c1)
 replace hB := hB.setCell (p := ⟨w.heap.size, 1, none⟩) (by first | omega | (simp; omega) | simp) (.slice a1 k1 c1)
 generalize ((w3.setCell ⟨w.heap.size, 0, none⟩ (.bool b1)).setCell ⟨w.heap.size, 1, none⟩ (.slice a1 k1 c1)) = WF at *
 have pr := xr.all2
 exact bodyPost_ret (v := .tuple #[.agg #[.bool b1, .slice a1 k1 c1], .int .i64 0]) (by simp [results, Tryz.results88, go_sem, pr]) rfl ⟨⟨_, rfl, gn⟩, hB⟩
end Go.Proofs.YtmbcnfogjncdaaaGreat
