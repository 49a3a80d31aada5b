/-
'normalizer' and 'addTimes'.
-/
import Derived.Test.YtodmbklednehbaaShort
namespace Go.Proofs.Ytodmbklednehbaa
open Go.RowKit Wh

def Bnd : Nat := 65536
theorem Bnd_eq : Bnd = 65536 := rfl

/-- The world has not changed. -/
def Same (w w' : World) : Prop := w = w'

def NormRel (t0 : Nat) (f t : Value) : Prop := ∃ k : Nat, (1 ≤ k ∧ ∃ j, k = 2 ^ j) ∧ t0 * k < 65536 ∧ f = .int .i64 (k : Int) ∧ t = .int .u16 ((t0 * k : Nat) : Int)

set_option maxRecDepth 100000 in
set_option maxHeartbeats 1000000 in
theorem normalizer_any (sv : Value) (l : List Nat) (hl : Lm l) (hne : l ≠ []) (h0 : l[l.length - 1]?.getD 0 ≠ 0) (w : World) (h : Lim w sv l) :
    Calls Try.prog 70 #[sv] w fun e w' => (∃ k : Nat, e = .returned (.int .i64 (k : Int)) ∧ (1 ≤ k ∧ ∃ j, k = 2 ^ j) ∧ k ≤ 65535 ∧ 32768 ≤ l[l.length - 1]?.getD 0 * k ∧ l[l.length - 1]?.getD 0 * k < 65536) ∧ w = w' := by
  have h' := h
  obtain ⟨a, cap, rfl, hlc, ⟨hcm, hcl, hcn⟩, hcs⟩ := h'
  obtain ⟨b, off, rfl, hb, hc⟩ := h.block hne
  have hpos : 0 < l.length := by cases l with | nil => exact absurd rfl hne | cons => simp
  have hcell := hc (l.length - 1) (by omega)
  have hu := hl.getD (l.length - 1)
  generalize l[l.length - 1]?.getD 0 = u at *
  clear hc hcs hcn h
  go_enter Try.func70, Try.ntmps70
  go_wp2
  go_loopw [3, 4] (fun f t wr => NormRel u f t ∧ Same w wr) (fun _ t _ => Bnd - (intOf t).toNat)
  case atStart => exact ⟨⟨1, ⟨by omega, 0, rfl⟩, by omega, rfl, by simp⟩, rfl⟩
  case round =>
    obtain ⟨⟨k, ⟨k1, j, hj⟩, k2, rfl, rfl⟩, hs⟩ := hrel
    have HJ := Lib.hid hj
    clear hj
    obtain rfl : w = wr := hs
    have hk : k ≤ u * k := Nat.le_mul_of_pos_left _ (by omega)
    obtain ⟨t, ht⟩ : ∃ t, t = u * k := ⟨_, rfl⟩
    have HT := Lib.hid ht
    rw [← ht] at k2 hk ⊢
    clear ht
    have HLT : Hid (t < 32768) ∨ Hid (¬ t < 32768) := Nat.lt_or_ge t 32768 |>.imp id Nat.not_lt_of_ge
    rcases HLT with HL | HL
    · have hd : decide ((t : Int) < 32768) = true := by have := HL.out; simp; omega
      have m1 : (t : Int) * 2 ≤ 65535 := by have := HL.out; omega
      have m2 : (k : Int) * 2 ≤ 65535 := by have := HL.out; omega
      go_wp2
      have hlt := HL.out
      refine ⟨⟨⟨k * 2, ⟨by omega, j + 1, by rw [HJ.out, Nat.pow_succ]⟩, by rw [← Nat.mul_assoc, ← HT.out]; omega, by go_num, by rw [← Nat.mul_assoc, ← HT.out]; go_num⟩, rfl⟩, by have := Bnd_eq; simp [intOf]; omega⟩
    · have hd : decide ((t : Int) < 32768) = false := by have := HL.out; simp; omega
      go_wp2
      have hlt := HL.out
      go_ret
      exact ⟨⟨k, rfl, ⟨k1, j, HJ.out⟩, by omega, by rw [← HT.out]; omega, by rw [← HT.out]; exact k2⟩, rfl⟩

/-- The limbs R, those from number i on replaced by Q. -/
def splice (R : List Nat) (i : Nat) (Q : List Nat) : List Nat := R.take i ++ Q ++ R.drop (i + Q.length)
theorem splice_length {R Q : List Nat} {i : Nat} (h : i + Q.length ≤ R.length) : (splice R i Q).length = R.length := by simp [splice]; omega
theorem splice_Lm {R Q : List Nat} {i : Nat} (hR : Lm R) (hQ : Lm Q) : Lm (splice R i Q) := ((hR.take _).append hQ).append (hR.drop _)
theorem splice_nil (R : List Nat) (i : Nat) : splice R i [] = R := by simp [splice]
theorem splice_get {R Q : List Nat} {i : Nat} (h : i + Q.length < R.length) : (splice R i Q)[i + Q.length]?.getD 0 = R[i + Q.length]?.getD 0 := by
  unfold splice
  rw [List.getElem?_append_right (by simp; omega)]
  simp
  congr 2
  omega
theorem splice_set {R Q : List Nat} {i x : Nat} (h : i + Q.length < R.length) : (splice R i Q).set (i + Q.length) x = splice R i (Q ++ [x]) := by
  unfold splice
  rw [List.set_append_right _ _ (by simp; omega)]
  have e : i + Q.length - (R.take i ++ Q).length = 0 := by simp; omega
  rw [e, List.drop_eq_getElem_cons h, List.set_cons_zero]
  simp [List.length_append, Nat.add_assoc]

theorem add_step {c p x f P V : Int} {l : List Nat} (h : (val l : Int) + ((65536 ^ l.length : Nat) : Int) * c = P + f * V) :
    (val (l ++ [((c + (p + x * f)) % 65536).toNat]) : Int) + ((65536 ^ (l.length + 1) : Nat) : Int) * ((c + (p + x * f)) / 65536) = (P + ((65536 ^ l.length : Nat) : Int) * p) + f * (V + ((65536 ^ l.length : Nat) : Int) * x) := by
  rw [put_step, Int.mul_add, ← Int.add_assoc, h, Int.mul_add, Int.mul_add, ← Int.mul_assoc, Int.mul_comm f (_ * x), Int.mul_assoc]
  omega

/-- The row after some limbs have been added, and the carry. -/
def AddRel (G N i n : Nat) (R lb : List Nat) (f : Int) (base : Nat) (w : World) (c k : Value) (wr : World) : Prop :=
  ∃ (Q : List Nat) (ci : Int), Q.length ≤ n ∧ k = .int .i64 (Q.length : Int) ∧ c = .int .i64 ci ∧ Lm Q ∧ -65535 ≤ ci ∧ ci ≤ 65535 ∧
    (val Q : Int) + ((65536 ^ Q.length : Nat) : Int) * ci = (val ((R.drop i).take Q.length) : Int) + f * (val (lb.take Q.length) : Int) ∧
    wr.ownsRow base 22 1 (.slice (some ⟨G, 0, none⟩) N N) N (cellsOf (splice R i Q)) ∧ w.grownBy wr (some G)

theorem grownBy_same {w a b : World} {G : Nat} (h : w.grownBy a (some G)) (k : a.grownBy b (some G)) : w.grownBy b (some G) := h.trans k

theorem val_take_getD (a : List Nat) (k : Nat) : val (a.take (k + 1)) = val (a.take k) + 65536 ^ k * (a[k]?.getD 0) := by
  by_cases hk : k < a.length
  · exact val_take_succ hk
  · rw [List.take_of_length_le (by omega), List.take_of_length_le (by omega), List.getElem?_eq_none (by omega)]
    simp

theorem add_rel {G N i n base : Nat} {R lb Q : List Nat} {f ci s : Int} {w wr : World} (hR : R.length = N) (hin : i + n ≤ N) (hk : Q.length < n) (hqm : Lm Q)
    (hv : (val Q : Int) + ((65536 ^ Q.length : Nat) : Int) * ci = (val ((R.drop i).take Q.length) : Int) + f * (val (lb.take Q.length) : Int))
    (hrow : wr.ownsRow base 22 1 (.slice (some ⟨G, 0, none⟩) N N) N (cellsOf (splice R i Q))) (hg : w.grownBy wr (some G))
    (hs : s = ci + (((R[i + Q.length]?.getD 0 : Nat) : Int) + ((lb[Q.length]?.getD 0 : Nat) : Int) * f)) (s1 : -65535 ≤ s / 65536) (s2 : s / 65536 ≤ 65535) :
    AddRel G N i n R lb f base w (.int .i64 (s / 65536)) (.int .i64 ((Q.length : Int) + 1)) (wr.setCell ⟨G, i + Q.length, none⟩ (.int .u16 (IntKind.u16.wrap s))) := by
  obtain ⟨r1, r2⟩ := hrow.stored (i + Q.length) (.int .u16 (IntKind.u16.wrap s))
  have ew : IntKind.u16.wrap s = (((s % 65536).toNat : Nat) : Int) := by rw [IntKind.wrap_u16, Int.toNat_of_nonneg (by omega)]
  refine ⟨Q ++ [(s % 65536).toNat], s / 65536, by simp; omega, by simp, rfl, hqm.append (.cons (by omega) .nil), s1, s2, ?_, ?_, hg.trans r2⟩
  · have e := add_step (p := ((R[i + Q.length]?.getD 0 : Nat) : Int)) (x := ((lb[Q.length]?.getD 0 : Nat) : Int)) hv
    rw [← hs] at e
    simp only [List.length_append, List.length_cons, List.length_nil, Nat.zero_add]
    rw [e, val_take_getD, val_take_getD, List.getElem?_drop]
    simp only [Int.natCast_add, Int.natCast_mul]
  · rw [ew, cellsOf_set, splice_set (by omega)] at r1
    rw [ew]
    exact r1

set_option maxRecDepth 100000 in
set_option maxHeartbeats 1000000 in
theorem addTimes_any (G N i n c0 base : Nat) (R : List Nat) (sb : Value) (lb : List Nat) (hR : Lm R) (hlb : Lm lb) (f : Int) (f1 : -65535 ≤ f) (f2 : f ≤ 65535) (hin : i + n ≤ N) (_hN : N ≤ 1048576) (hc0 : n ≤ c0) (hc1 : c0 ≤ 1048576) (w : World)
    (hrow : w.ownsRow base 22 1 (.slice (some ⟨G, 0, none⟩) N N) N (cellsOf R)) (h : Lim w sb lb) (hsep : sb.ownBlock ≠ some G) :
    Calls Try.prog 77 #[.slice (some ⟨G, i, none⟩) n c0, sb, .int .i64 f] w fun e w' =>
      (∃ (Q : List Nat) (ci : Int), Q.length = n ∧ Lm Q ∧ e = .returned (.int .i64 ci) ∧ -65535 ≤ ci ∧ ci ≤ 65535 ∧ (val Q : Int) + ((65536 ^ n : Nat) : Int) * ci = (val ((R.drop i).take n) : Int) + f * (val (lb.take n) : Int) ∧
        w'.ownsRow base 22 1 (.slice (some ⟨G, 0, none⟩) N N) N (cellsOf (splice R i Q))) ∧ w.grownBy w' (some G) := by
  have hlen : R.length = N := by have := hrow.1; simpa [cellsOf] using this
  have h' := h
  obtain ⟨a, cap, rfl, hlc, ⟨hcm, hcl, hcn⟩, hcs⟩ := h'
  have cb : ∀ k, k < lb.length → ∃ bb bo, a = some ⟨bb, bo, none⟩ ∧ bb ≠ G ∧ w.cell? ⟨bb, bo + k, none⟩ = some (.int .u16 ((lb[k]?.getD 0 : Nat) : Int)) := fun k hk => by
    obtain ⟨bb, bo, e, e1, e2⟩ := h.block (by intro e; rw [e] at hk; simp at hk)
    refine ⟨bb, bo, e, ?_, e2 k hk⟩
    rintro rfl
    rw [e] at hsep
    simp [Value.ownBlock] at hsep
  have CB := Lib.hid cb
  have HLEN := Lib.hid hlen
  clear cb hcs hcn h hsep hlen
  go_enter Try.func77, Try.ntmps77
  go_wp2
  go_loopw [7, 11] (fun c k wr => AddRel G N i n R lb f base w c k wr) (fun _ k _ => n - (intOf k).toNat)
  case atStart => exact ⟨[], 0, by simp, rfl, rfl, .nil, by omega, by omega, by simp, by rw [splice_nil]; exact hrow, ⟨rfl, rfl, rfl, Nat.le_refl _, fun _ _ _ => rfl⟩⟩
  case round =>
    obtain ⟨Q, ci, hq, rfl, rfl, hqm, c1, c2, hv, hrow', hg⟩ := hrel
    have hlen := HLEN.out
    obtain ⟨k, hk⟩ : ∃ k, k = Q.length := ⟨_, rfl⟩
    have HK := Lib.hid hk
    have HV := Lib.hid hv
    clear hv
    by_cases hkn : k < n
    · have hcell := hrow'.cellAt (i + Q.length) (by omega)
      have hfro := hrow'.frozenAt (i + Q.length)
      rw [cellsOf_get _ _ (by rw [splice_length (by omega)]; omega), splice_get (by omega)] at hcell
      have hu := hR.getD (i + Q.length)
      rw [← hk] at hcell hfro hu hq ⊢
      obtain ⟨u, hu'⟩ : ∃ u : Nat, u = R[i + k]?.getD 0 := ⟨_, rfl⟩
      rw [← hu'] at hcell hu
      have HU := Lib.hid hu'
      clear hu' hlen
      have HR := Lib.hid hrow'
      clear hrow'
      have g1 : k < lb.length ∨ ¬ k < lb.length := Nat.lt_or_ge k lb.length |>.imp id Nat.not_lt_of_ge
      clear hk
      rcases g1 with g1 | g1
      · obtain ⟨bb, bo, rfl, hbb, hcb⟩ := CB.out k g1
        have hcb' := hg.cell hcb (by simp; exact hbb)
        have hu2 := hlb.getD k
        obtain ⟨v, hv'⟩ : ∃ v : Nat, v = lb[k]?.getD 0 := ⟨_, rfl⟩
        rw [← hv'] at hcb' hu2
        have HW := Lib.hid hv'
        clear hv' hcb
        obtain ⟨m3, m4⟩ := mul_bound (x := (v : Int)) (M := 65535) (by omega) (by omega) (by omega) f1 f2
        go_wp2
        refine ⟨?_, by simp [intOf]; omega⟩
        have hkk := HK.out
        subst hkk
        exact add_rel HLEN.out hin hkn hqm HV.out HR.out hg (by rw [← HU.out, ← HW.out]; omega) (by omega) (by omega)
      · go_wp2
        refine ⟨?_, by simp [intOf]; omega⟩
        have hkk := HK.out
        subst hkk
        exact add_rel HLEN.out hin hkn hqm HV.out HR.out hg (by rw [← HU.out, getD_out (by omega)]; omega) (by omega) (by omega)
    · have e : Q.length = n := by omega
      have HE := Lib.hid e
      rw [← hk] at hq ⊢
      clear hlen e hk
      go_wp2
      go_ret
      have hv := HV.out
      rw [HE.out] at hv
      exact ⟨⟨Q, ci, HE.out, hqm, rfl, c1, c2, hv, hrow'⟩, hg⟩

end Go.Proofs.Ytodmbklednehbaa
