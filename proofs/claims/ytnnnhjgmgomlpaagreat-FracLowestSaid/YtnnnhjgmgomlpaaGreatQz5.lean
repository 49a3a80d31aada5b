/- A part of the proofs about fractions. -/
import Derived.Deep.RegionWith
import Derived.Test.YtnnnhjgmgomlpaaGreatQz4
namespace Go.Proofs.YtnnnhjgmgomlpaaGreat
open Go.RowKit Wh
def Bnd : Nat := 65536
theorem Bnd_eq : Bnd = 65536 := rfl
def Same (w w' : World) : Prop := w = w'
def NormRel (t0 : Nat) (f t : Value) : Prop := ∃ k : Nat, (1 ≤ k ∧ ∃ j, k = 2 ^ j) ∧ t0 * k < 65536 ∧ f = .int .i64 (k : Int) ∧ t = .int .u16 ((t0 * k : Nat) : Int)
set_option maxRecDepth 100000 in
set_option maxHeartbeats 1000000 in
theorem normalizer_any (sv : Value) (l : List Nat) (hl : Lm l) (hne : l ≠ []) (h0 : l[l.length - 1]?.getD 0 ≠ 0) (w : World) (h : Lim w sv l) :
    Calls Tryz.prog 205 #[sv] w fun e w' => (∃ k : Nat, e = .returned (.int .i64 (k : Int)) ∧ (1 ≤ k ∧ ∃ j, k = 2 ^ j) ∧ k ≤ 65535 ∧ 32768 ≤ l[l.length - 1]?.getD 0 * k ∧ l[l.length - 1]?.getD 0 * k < 65536) ∧ w = w' := by
  have h' := h
  obtain ⟨a, cap, rfl, hlc, ⟨hcm, hcl, hcn⟩, hcs⟩ := h'
  obtain ⟨b, off, rfl, hb, hc⟩ := h.block hne
  have hpos : 0 < l.length := by cases l with | nil => exact absurd rfl hne | cons => simp
  have hcell := hc (l.length - 1) (by omega)
  have hu := hl.getD (l.length - 1)
  generalize l[l.length - 1]?.getD 0 = u at *
  clear hc hcs hcn h
  go_enter Tryz.func205, Tryz.ntmps205
  go_wp2
  go_loopw [3, 4] (fun f t wr => NormRel u f t ∧ Same w wr) (fun _ t _ => Bnd - (intOf t).toNat)
  case atStart => exact ⟨⟨1, ⟨by omega, 0, rfl⟩, by omega, rfl, by simp⟩, rfl⟩
  case round =>
    obtain ⟨⟨k, ⟨k1, j, hj⟩, k2, rfl, rfl⟩, hs⟩ := hrel
    have HJ := Lib.hid hj
    clear hj
    obtain rfl : w = wr := hs
    have hk : k ≤ u * k := Nat.le_mul_of_pos_left _ (by omega)
    obtain ⟨t, ht⟩ : ∃ t, t = u * k := ⟨_, rfl⟩
    have HT := Lib.hid ht
    rw [← ht] at k2 hk ⊢
    clear ht
    have HLT : Hid (t < 32768) ∨ Hid (¬ t < 32768) := Nat.lt_or_ge t 32768 |>.imp id Nat.not_lt_of_ge
    rcases HLT with HL | HL
    · have hd : decide ((t : Int) < 32768) = true := by have := HL.out; simp; omega
      have m1 : (t : Int) * 2 ≤ 65535 := by have := HL.out; omega
      have m2 : (k : Int) * 2 ≤ 65535 := by have := HL.out; omega
      go_wp2
      have hlt := HL.out
      refine ⟨⟨⟨k * 2, ⟨by omega, j + 1, by rw [HJ.out, Nat.pow_succ]⟩, by rw [← Nat.mul_assoc, ← HT.out]; omega, by go_num, by rw [← Nat.mul_assoc, ← HT.out]; go_num⟩, rfl⟩, by have := Bnd_eq; simp [intOf]; omega⟩
    · have hd : decide ((t : Int) < 32768) = false := by have := HL.out; simp; omega
      go_wp2
      have hlt := HL.out
      go_ret
      exact ⟨⟨k, rfl, ⟨k1, j, HJ.out⟩, by omega, by rw [← HT.out]; omega, by rw [← HT.out]; exact k2⟩, rfl⟩
def splice (R : List Nat) (i : Nat) (Q : List Nat) : List Nat := R.take i ++ Q ++ R.drop (i + Q.length)
theorem splice_length {R Q : List Nat} {i : Nat} (h : i + Q.length ≤ R.length) : (splice R i Q).length = R.length := by simp [splice]; omega
theorem splice_Lm {R Q : List Nat} {i : Nat} (hR : Lm R) (hQ : Lm Q) : Lm (splice R i Q) := ((hR.take _).append hQ).append (hR.drop _)
theorem splice_nil (R : List Nat) (i : Nat) : splice R i [] = R := by simp [splice]
theorem splice_get {R Q : List Nat} {i : Nat} (h : i + Q.length < R.length) : (splice R i Q)[i + Q.length]?.getD 0 = R[i + Q.length]?.getD 0 := by
  unfold splice
  rw [List.getElem?_append_right (by simp; omega)]
  simp
  congr 2
  omega
theorem splice_set {R Q : List Nat} {i x : Nat} (h : i + Q.length < R.length) : (splice R i Q).set (i + Q.length) x = splice R i (Q ++ [x]) := by
  unfold splice
  rw [List.set_append_right _ _ (by simp; omega)]
  have e : i + Q.length - (R.take i ++ Q).length = 0 := by simp; omega
  rw [e, List.drop_eq_getElem_cons h, List.set_cons_zero]
  simp [List.length_append, Nat.add_assoc]
theorem add_step {c p x f P V : Int} {l : List Nat} (h : (val l : Int) + ((65536 ^ l.length : Nat) : Int) * c = P + f * V) :
    (val (l ++ [((c + (p + x * f)) % 65536).toNat]) : Int) + ((65536 ^ (l.length + 1) : Nat) : Int) * ((c + (p + x * f)) / 65536) = (P + ((65536 ^ l.length : Nat) : Int) * p) + f * (V + ((65536 ^ l.length : Nat) : Int) * x) := by
  rw [put_step, Int.mul_add, ← Int.add_assoc, h, Int.mul_add, Int.mul_add, ← Int.mul_assoc, Int.mul_comm f (_ * x), Int.mul_assoc]
  omega
def AddRel (G N i n : Nat) (R lb : List Nat) (f : Int) (base : Nat) (w : World) (c k : Value) (wr : World) : Prop :=
  ∃ (Q : List Nat) (ci : Int), Q.length ≤ n ∧ k = .int .i64 (Q.length : Int) ∧ c = .int .i64 ci ∧ Lm Q ∧ -65535 ≤ ci ∧ ci ≤ 65535 ∧
    (val Q : Int) + ((65536 ^ Q.length : Nat) : Int) * ci = (val ((R.drop i).take Q.length) : Int) + f * (val (lb.take Q.length) : Int) ∧
    wr.ownsRow base 62 1 (.slice (some ⟨G, 0, none⟩) N N) N (cellsOf (splice R i Q)) ∧ w.grownBy wr (some G)
theorem val_take_getD (a : List Nat) (k : Nat) : val (a.take (k + 1)) = val (a.take k) + 65536 ^ k * (a[k]?.getD 0) := by
  by_cases hk : k < a.length
  · exact val_take_succ hk
  · rw [List.take_of_length_le (by omega), List.take_of_length_le (by omega), List.getElem?_eq_none (by omega)]
    simp
theorem add_rel {G N i n base : Nat} {R lb Q : List Nat} {f ci s : Int} {w wr : World} (hR : R.length = N) (hin : i + n ≤ N) (hk : Q.length < n) (hqm : Lm Q)
    (hv : (val Q : Int) + ((65536 ^ Q.length : Nat) : Int) * ci = (val ((R.drop i).take Q.length) : Int) + f * (val (lb.take Q.length) : Int))
    (hrow : wr.ownsRow base 62 1 (.slice (some ⟨G, 0, none⟩) N N) N (cellsOf (splice R i Q))) (hg : w.grownBy wr (some G))
    (hs : s = ci + (((R[i + Q.length]?.getD 0 : Nat) : Int) + ((lb[Q.length]?.getD 0 : Nat) : Int) * f)) (s1 : -65535 ≤ s / 65536) (s2 : s / 65536 ≤ 65535) :
    AddRel G N i n R lb f base w (.int .i64 (s / 65536)) (.int .i64 ((Q.length : Int) + 1)) (wr.setCell ⟨G, i + Q.length, none⟩ (.int .u16 (IntKind.u16.wrap s))) := by
  obtain ⟨r1, r2⟩ := hrow.stored (i + Q.length) (.int .u16 (IntKind.u16.wrap s))
  have ew : IntKind.u16.wrap s = (((s % 65536).toNat : Nat) : Int) := by rw [IntKind.wrap_u16, Int.toNat_of_nonneg (by omega)]
  refine ⟨Q ++ [(s % 65536).toNat], s / 65536, by simp; omega, by simp, rfl, hqm.append (.cons (by omega) .nil), s1, s2, ?_, ?_, hg.trans r2⟩
  · have e := add_step (p := ((R[i + Q.length]?.getD 0 : Nat) : Int)) (x := ((lb[Q.length]?.getD 0 : Nat) : Int)) hv
    rw [← hs] at e
    simp only [List.length_append, List.length_cons, List.length_nil, Nat.zero_add]
    rw [e, val_take_getD, val_take_getD, List.getElem?_drop]
    simp only [Int.natCast_add, Int.natCast_mul]
  · rw [ew, cellsOf_set, splice_set (by omega)] at r1
    rw [ew]
    exact r1
set_option maxRecDepth 100000 in
set_option maxHeartbeats 1000000 in
theorem addTimes_any (G N i n c0 base : Nat) (R : List Nat) (sb : Value) (lb : List Nat) (hR : Lm R) (hlb : Lm lb) (f : Int) (f1 : -65535 ≤ f) (f2 : f ≤ 65535) (hin : i + n ≤ N) (_hN : N ≤ 1048576) (hc0 : n ≤ c0) (hc1 : c0 ≤ 1048576) (w : World)
    (hrow : w.ownsRow base 62 1 (.slice (some ⟨G, 0, none⟩) N N) N (cellsOf R)) (h : Lim w sb lb) (hsep : sb.ownBlock ≠ some G) :
    Calls Tryz.prog 250 #[.slice (some ⟨G, i, none⟩) n c0, sb, .int .i64 f] w fun e w' =>
      (∃ (Q : List Nat) (ci : Int), Q.length = n ∧ Lm Q ∧ e = .returned (.int .i64 ci) ∧ -65535 ≤ ci ∧ ci ≤ 65535 ∧ (val Q : Int) + ((65536 ^ n : Nat) : Int) * ci = (val ((R.drop i).take n) : Int) + f * (val (lb.take n) : Int) ∧
        w'.ownsRow base 62 1 (.slice (some ⟨G, 0, none⟩) N N) N (cellsOf (splice R i Q))) ∧ w.grownBy w' (some G) := by
  have hlen : R.length = N := by have := hrow.1; simpa [cellsOf] using this
  have h' := h
  obtain ⟨a, cap, rfl, hlc, ⟨hcm, hcl, hcn⟩, hcs⟩ := h'
  have cb : ∀ k, k < lb.length → ∃ bb bo, a = some ⟨bb, bo, none⟩ ∧ bb ≠ G ∧ w.cell? ⟨bb, bo + k, none⟩ = some (.int .u16 ((lb[k]?.getD 0 : Nat) : Int)) := fun k hk => by
    obtain ⟨bb, bo, e, e1, e2⟩ := h.block (by intro e; rw [e] at hk; simp at hk)
    refine ⟨bb, bo, e, ?_, e2 k hk⟩
    rintro rfl
    rw [e] at hsep
    simp [Value.ownBlock] at hsep
  have CB := Lib.hid cb
  have HLEN := Lib.hid hlen
  clear cb hcs hcn h hsep hlen
  go_enter Tryz.func250, Tryz.ntmps250
  go_wp2
  go_loopw [7, 11] (fun c k wr => AddRel G N i n R lb f base w c k wr) (fun _ k _ => n - (intOf k).toNat)
  case atStart => exact ⟨[], 0, by simp, rfl, rfl, .nil, by omega, by omega, by simp, by rw [splice_nil]; exact hrow, ⟨rfl, rfl, rfl, Nat.le_refl _, fun _ _ _ => rfl⟩⟩
  case round =>
    obtain ⟨Q, ci, hq, rfl, rfl, hqm, c1, c2, hv, hrow', hg⟩ := hrel
    have hlen := HLEN.out
    obtain ⟨k, hk⟩ : ∃ k, k = Q.length := ⟨_, rfl⟩
    have HK := Lib.hid hk
    have HV := Lib.hid hv
    clear hv
    by_cases hkn : k < n
    · have hcell := hrow'.cellAt (i + Q.length) (by omega)
      have hfro := hrow'.frozenAt (i + Q.length)
      rw [cellsOf_get _ _ (by rw [splice_length (by omega)]; omega), splice_get (by omega)] at hcell
      have hu := hR.getD (i + Q.length)
      rw [← hk] at hcell hfro hu hq ⊢
      obtain ⟨u, hu'⟩ : ∃ u : Nat, u = R[i + k]?.getD 0 := ⟨_, rfl⟩
      rw [← hu'] at hcell hu
      have HU := Lib.hid hu'
      clear hu' hlen
      have HR := Lib.hid hrow'
      clear hrow'
      have g1 : k < lb.length ∨ ¬ k < lb.length := Nat.lt_or_ge k lb.length |>.imp id Nat.not_lt_of_ge
      clear hk
      rcases g1 with g1 | g1
      · obtain ⟨bb, bo, rfl, hbb, hcb⟩ := CB.out k g1
        have hcb' := hg.cell hcb (by simp; exact hbb)
        have hu2 := hlb.getD k
        obtain ⟨v, hv'⟩ : ∃ v : Nat, v = lb[k]?.getD 0 := ⟨_, rfl⟩
        rw [← hv'] at hcb' hu2
        have HW := Lib.hid hv'
        clear hv' hcb
        obtain ⟨m3, m4⟩ := mul_bound (x := (v : Int)) (M := 65535) (by omega) (by omega) (by omega) f1 f2
        go_wp2
        refine ⟨?_, by simp [intOf]; omega⟩
        have hkk := HK.out
        subst hkk
        exact add_rel HLEN.out hin hkn hqm HV.out HR.out hg (by rw [← HU.out, ← HW.out]; omega) (by omega) (by omega)
      · go_wp2
        refine ⟨?_, by simp [intOf]; omega⟩
        have hkk := HK.out
        subst hkk
        exact add_rel HLEN.out hin hkn hqm HV.out HR.out hg (by rw [← HU.out, getD_out (by omega)]; omega) (by omega) (by omega)
    · have e : Q.length = n := by omega
      have HE := Lib.hid e
      rw [← hk] at hq ⊢
      clear hlen e hk
      go_wp2
      go_ret
      have hv := HV.out
      rw [HE.out] at hv
      exact ⟨⟨Q, ci, HE.out, hqm, rfl, c1, c2, hv, hrow'⟩, hg⟩
end Go.Proofs.YtnnnhjgmgomlpaaGreat
namespace Go.Proofs.YtnnnhjgmgomlpaaGreat
open Go.RowKit Wh
theorem carry_range {P q c x : Int} (hq0 : 0 ≤ q) (hq : q < P) (h : q + P * c = x) (h1 : -P < x) (h2 : x < P) : -1 ≤ c ∧ c ≤ 0 := by
  constructor
  · apply Int.not_lt.1
    intro hc
    have : P * c ≤ P * (-2) := Int.mul_le_mul_of_nonneg_left (by omega) (by omega)
    omega
  · apply Int.not_lt.1
    intro hc
    have : P * 1 ≤ P * c := Int.mul_le_mul_of_nonneg_left (by omega) (by omega)
    omega
theorem guess_ge {p V D p3 b2 : Nat} (hp : p < (p3 + 1) * D) (hV : b2 * D ≤ V) (hb : 0 < b2) : p / V ≤ p3 / b2 := by
  rw [Nat.le_div_iff_mul_le hb]
  have h1 : p / V * V ≤ p := Nat.div_mul_le_self p V
  have h2 : p / V * (b2 * D) ≤ p / V * V := Nat.mul_le_mul_left _ hV
  have h3 : p / V * b2 * D < (p3 + 1) * D := by rw [Nat.mul_assoc]; omega
  have := Nat.lt_of_mul_lt_mul_right h3
  omega
theorem Lim.drop {W : World} {b off n cap : Nat} {l : List Nat} (h : Lim W (.slice (some ⟨b, off, none⟩) n cap) l) {k : Nat} (hk : k ≤ n) : Lim W (.slice (some ⟨b, off + k, none⟩) (n - k) (cap - k)) (l.drop k) := by
  obtain ⟨a', cap', e, h1, h2, h⟩ := h
  cases e
  refine ⟨some ⟨b, off + k, none⟩, cap - k, by simp, by simp; omega, ⟨by omega, by simp; omega, fun e => by cases e⟩, ?_⟩
  rcases h with rfl | ⟨b', off', e, hc⟩
  · exact .inl (by simp)
  · cases e
    refine .inr ⟨b, off + k, rfl, fun j hj => ?_⟩
    simp at hj
    rw [List.getElem?_drop, Nat.add_assoc]
    exact hc (k + j) (by omega)
theorem Lim.of_row {W : World} {base G N i n c0 : Nat} {R : List Nat} (hrow : W.ownsRow base 62 1 (.slice (some ⟨G, 0, none⟩) N N) N (cellsOf R)) (hin : i + n ≤ N) (hn : n ≤ c0) (hc0 : c0 ≤ 1048576) : Lim W (.slice (some ⟨G, i, none⟩) n c0) ((R.drop i).take n) := by
  have hlen : R.length = N := by have := hrow.1; simpa [cellsOf] using this
  have hl : ((R.drop i).take n).length = n := by simp; omega
  refine ⟨some ⟨G, i, none⟩, c0, by rw [hl], by omega, ⟨by omega, by omega, fun e => by cases e⟩, .inr ⟨G, i, rfl, fun j hj => ?_⟩⟩
  rw [hl] at hj
  rw [hrow.cellAt (i + j) (by omega), cellsOf_get _ _ (by omega), List.getElem?_take_of_lt hj, List.getElem?_drop]
theorem slice_from (W : World) (a : Addr) (n cap k : Nat) (hk : k ≤ n) (hc : k < cap) :
    (Instr.slice 22 (.slice (some a) n cap) (some (.int .i64 (k : Int))) none none).run Tryz.prog W = .ok (.slice (some (a.add k)) (n - k) (cap - k)) W := by
  have ht : Tryz.prog.underlying 22 = some (.slice (Tryz.prog.elem 22)) := by kernel_rfl
  have hz : (sizeOf (Tryz.prog.elem 22)).run Tryz.prog W = .ok 1 W := by kernel_rfl
  rw [run_slice_l (w := W) (t := 22) (a := some a) (len := n) (cap := cap) ht .i64 (k : Int) (by omega) (by omega), hz]
  simp only [Result.andThen, sliced, Int.toNat_natCast, Nat.mul_one, Option.map_some]
  rw [if_neg (by omega)]
theorem take_init {P0 lb : List Nat} {k : Nat} (hP : Lm P0) (hPl : P0.length = k + 3) (hll : lb.length = k + 2) (htop : 0 < val (lb.drop k)) :
    min (val P0 / val lb) 65535 ≤ min (val (P0.drop k) / val (lb.drop k)) 65535 := by
  have e1 := val_take_drop P0 k
  have e2 := val_take_drop lb k
  rw [hPl, Nat.min_eq_left (by omega)] at e1
  rw [hll, Nat.min_eq_left (by omega)] at e2
  have h1 := val_lt (hP.take k)
  rw [List.length_take, hPl, Nat.min_eq_left (by omega)] at h1
  have := guess_ge (p := val P0) (V := val lb) (D := 65536 ^ k) (p3 := val (P0.drop k)) (b2 := val (lb.drop k))
    (by rw [e1, Nat.add_mul, Nat.mul_comm (65536 ^ k)]; omega) (by rw [Nat.mul_comm (val (lb.drop k)), e2]; omega) htop
  omega
theorem take_carry {P0 lb Q : List Nat} {k g : Nat} {c : Int} (hP : Lm P0) (hPl : P0.length = k + 3) (hlb : Lm lb) (hll : lb.length = k + 2) (hQ : Lm Q) (hQl : Q.length = k + 3) (hg : g ≤ 65535)
    (h : (val Q : Int) + ((65536 ^ (k + 3) : Nat) : Int) * c = (val P0 : Int) - (g : Int) * (val lb : Int)) : -1 ≤ c ∧ c ≤ 0 := by
  have h1 := val_lt hP
  have h2 := val_lt hlb
  have h3 := val_lt hQ
  rw [hPl] at h1
  rw [hll] at h2
  rw [hQl] at h3
  have h4 : g * val lb ≤ 65535 * val lb := Nat.mul_le_mul_right _ hg
  have h5 : (65536 : Nat) ^ (k + 3) = 65536 ^ (k + 2) * 65536 := Nat.pow_succ _ _
  have h6 : (g : Int) * (val lb : Int) = ((g * val lb : Nat) : Int) := by rw [Int.natCast_mul]
  rw [h6] at h
  refine carry_range (P := ((65536 ^ (k + 3) : Nat) : Int)) (by omega) (by omega) h (by omega) (by omega)
theorem splice_drop_take {R Q : List Nat} {i n : Nat} (hQ : Q.length = n) (h : i + n ≤ R.length) : ((splice R i Q).drop i).take n = Q := by
  unfold splice
  rw [List.append_assoc, List.drop_append_of_le_length (by simp; omega), List.drop_eq_nil_of_le (by simp; omega), List.nil_append, List.take_append_of_le_length (by omega), List.take_of_length_le (by omega)]
theorem splice_splice {R Q Q' : List Nat} {i : Nat} (hQ : Q.length = Q'.length) (h : i + Q.length ≤ R.length) : splice (splice R i Q) i Q' = splice R i Q' := by
  have e1 : (splice R i Q).take i = R.take i := by
    unfold splice
    rw [List.append_assoc, List.take_append_of_le_length (by simp; omega), List.take_take, Nat.min_self]
  have e2 : (splice R i Q).drop (i + Q'.length) = R.drop (i + Q'.length) := by
    unfold splice
    have e3 : (R.take i ++ Q).length = i + Q'.length := by simp; omega
    rw [← e3, List.drop_left, e3, hQ]
  show (splice R i Q).take i ++ Q' ++ (splice R i Q).drop (i + Q'.length) = R.take i ++ Q' ++ R.drop (i + Q'.length)
  rw [e1, e2]
def TakeRel (G N i k : Nat) (R lb : List Nat) (base : Nat) (w : World) (g c : Value) (wr : World) : Prop :=
  ∃ (Q : List Nat) (gi : Nat) (ci : Int), Q.length = k + 3 ∧ g = .int .u64 (gi : Int) ∧ c = .int .i64 ci ∧ Lm Q ∧ gi ≤ 65535 ∧ min (val ((R.drop i).take (k + 3)) / val lb) 65535 ≤ gi ∧ -1 ≤ ci ∧ ci ≤ 0 ∧
    (val Q : Int) + ((65536 ^ (k + 3) : Nat) : Int) * ci = (val ((R.drop i).take (k + 3)) : Int) - (gi : Int) * (val lb : Int) ∧
    wr.ownsRow base 62 1 (.slice (some ⟨G, 0, none⟩) N N) N (cellsOf (splice R i Q)) ∧ w.grownBy wr (some G)
set_option maxRecDepth 100000 in
set_option maxHeartbeats 1000000 in
theorem takeOut_any (G N i k c0 base bb bo capb : Nat) (R lb : List Nat) (hR : Lm R) (hlb : Lm lb) (hin : i + (k + 3) ≤ N) (hN : N ≤ 1048576) (hc0 : k + 3 ≤ c0) (hc1 : c0 ≤ 1048576) (htop : 0 < val (lb.drop k)) (w : World)
    (hrow : w.ownsRow base 62 1 (.slice (some ⟨G, 0, none⟩) N N) N (cellsOf R)) (h : Lim w (.slice (some ⟨bb, bo, none⟩) (k + 2) capb) lb) (hsep : bb ≠ G) :
    Calls Tryz.prog 206 #[.slice (some ⟨G, i, none⟩) (k + 3) c0, .slice (some ⟨bb, bo, none⟩) (k + 2) capb] w fun e w' =>
      (∃ Q : List Nat, Q.length = k + 3 ∧ Lm Q ∧ e = .returned (.int .u16 ((min (val ((R.drop i).take (k + 3)) / val lb) 65535 : Nat) : Int)) ∧ val Q = val ((R.drop i).take (k + 3)) - min (val ((R.drop i).take (k + 3)) / val lb) 65535 * val lb ∧
        w'.ownsRow base 62 1 (.slice (some ⟨G, 0, none⟩) N N) N (cellsOf (splice R i Q))) ∧ w.grownBy w' (some G) := by
  have hcap : k + 2 ≤ capb ∧ capb ≤ 9223372036854775807 ∧ lb.length = k + 2 := by
    obtain ⟨a', cap', e, h1, h2, _⟩ := h
    injection e with e1 e2 e3
    exact ⟨by omega, by omega, e2.symm⟩
  obtain ⟨hcb1, hcb2, hlen⟩ := hcap
  have hP := Lim.of_row hrow hin hc0 hc1
  have hPl := hP.drop (k := k) (by omega)
  have hBl := h.drop (k := k) (by omega)
  have hPm : Lm (((R.drop i).take (k + 3)).drop k) := ((hR.drop _).take _).drop _
  have hBm : Lm (lb.drop k) := hlb.drop _
  rw [show k + 3 - k = 3 from by omega] at hPl
  rw [show k + 2 - k = 2 from by omega] at hBl
  have HL := Lib.hid hlen
  clear hlen
  have e3 : val (((R.drop i).take (k + 3)).drop k) % 18446744073709551616 = val (((R.drop i).take (k + 3)).drop k) := by
    have := val_lt hPm
    simp only [List.length_drop, List.length_take] at this
    rw [show min (k + 3) (R.length - i) - k = 3 from by have := hrow.1; simp [cellsOf] at this; omega] at this
    exact Nat.mod_eq_of_lt (by omega)
  have e2 : val (lb.drop k) % 18446744073709551616 = val (lb.drop k) := by
    have := val_lt hBm
    rw [List.length_drop, HL.out, show k + 2 - k = 2 from by omega] at this
    exact Nat.mod_eq_of_lt (by omega)
  have hW1 : ∀ W, Below w.heap.size w W → Calls Tryz.prog 151 #[.slice (some ⟨G, i + k, none⟩) 3 (c0 - k)] W fun e W' => e = .returned (.int .u64 ((val (((R.drop i).take (k + 3)).drop k) : Nat) : Int)) ∧ Below w.heap.size w W' := fun W hW =>
    (word_any _ _ hPm W (hPl.below hW (Nat.le_refl _))).mono fun e W' hh => ⟨by rw [← e3]; exact hh.1, hW.trans (hh.2.mono hW.size)⟩
  have hW2 : ∀ W, Below w.heap.size w W → Calls Tryz.prog 151 #[.slice (some ⟨bb, bo + k, none⟩) 2 (capb - k)] W fun e W' => e = .returned (.int .u64 ((val (lb.drop k) : Nat) : Int)) ∧ Below w.heap.size w W' := fun W hW =>
    (word_any _ _ hBm W (hBl.below hW (Nat.le_refl _))).mono fun e W' hh => ⟨by rw [← e2]; exact hh.1, hW.trans (hh.2.mono hW.size)⟩
  have HW1 := Lib.hid hW1
  have HW2 := Lib.hid hW2
  have hb0 := Below.refl w.heap.size w
  have hp3b := val_lt hPm
  rw [show (((R.drop i).take (k + 3)).drop k).length = 3 from by have := hrow.1; simp [cellsOf] at this ⊢; omega] at hp3b
  generalize hp3 : val (((R.drop i).take (k + 3)).drop k) = p3 at *
  generalize hb2 : val (lb.drop k) = b2 at *
  have HP3 := Lib.hid hp3
  have HB2 := Lib.hid hb2
  clear hW1 hW2 e3 e2 hp3 hb2 hPl hBl hPm hBm hP
  have hs1 := fun W => slice_from W ⟨G, i, none⟩ (k + 3) c0 k (by omega) (by omega)
  have hs2 := fun W => slice_from W ⟨bb, bo, none⟩ (k + 2) capb k (by omega) (by omega)
  rw [add_eq] at hs1 hs2
  rw [show k + 3 - k = 3 from by omega] at hs1
  rw [show k + 2 - k = 2 from by omega] at hs2
  obtain ⟨z, hz⟩ : ∃ z, z = p3 / b2 := ⟨_, rfl⟩
  obtain ⟨g0, hg0⟩ : ∃ g0, g0 = min z 65535 := ⟨_, rfl⟩
  have hzb : z ≤ p3 := by rw [hz]; exact Nat.div_le_self _ _
  have q4 : IntKind.u64.wrap ((p3 : Int) / (b2 : Int)) = (z : Int) := by
    rw [IntKind.wrap_u64, hz]
    rw [show (p3 : Int) / (b2 : Int) = ((p3 / b2 : Nat) : Int) from rfl]
    rw [← hz]
    omega
  have q5 : (if 65535 < (z : Int) then (65535 : Int) else (z : Int)) = (g0 : Int) := by
    split <;> omega
  have hg1 : g0 ≤ 65535 := by omega
  have HZ := Lib.hid hz
  have HG := Lib.hid hg0
  clear hz hg0
  have q1 : IntKind.i64.wrap ((k : Int) + 2 - 2) = (k : Int) := by rw [show (k : Int) + 2 - 2 = (k : Int) from by omega]; exact IntWalk.i64_in _ (by omega)
  have q2 : IntKind.i64.wrap (k : Int) = (k : Int) := IntWalk.i64_in _ (by omega)
  go_enter Tryz.func206, Tryz.ntmps206
  go_wp2
  go_region_with (first | (go_at_call_of 151 (Value.slice (some ⟨G, i + k, none⟩) 3 (c0 - k)); refine (HW1.out _ (by first | assumption | exact Below.drew (by assumption))).mono ?_; rintro e W1 ⟨rfl, hbW1⟩) | (go_at_call_of 151 (Value.slice (some ⟨bb, bo + k, none⟩) 2 (capb - k)); refine (HW2.out _ (by first | assumption | exact Below.drew (by assumption))).mono ?_; rintro e W1 ⟨rfl, hbW1⟩))
  clear q1 q2 q4 q5
  go_wp2_with (go_at_call 250; refine (addTimes_any G N i (k + 3) c0 base R _ lb hR hlb _ (by omega) (by omega) hin hN hc0 hc1 _ (ownsRow_below hrow (by first | assumption | exact Below.drew (by assumption))) (h.below (by first | assumption | exact Below.drew (by assumption)) (Nat.le_refl _)) (by simpa [Value.ownBlock] using hsep)).mono ?_; rintro e W3 ⟨⟨Q, ci, hQ, hQm, rfl, c1, c2, hv, hrow3⟩, hg3⟩)
  have hlenR : R.length = N := by have := hrow.1; simpa [cellsOf] using this
  have hP0 : Lm ((R.drop i).take (k + 3)) := (hR.drop _).take _
  have hP0l : ((R.drop i).take (k + 3)).length = k + 3 := by simp; omega
  have hg1' : w.grownBy W3 (some G) := (World.grownBy.trans ⟨hbW1.os, hbW1.tape, hbW1.output, hbW1.size, fun j hj _ => hbW1.block j hj⟩ hg3)
  have hinit := take_init hP0 hP0l HL.out (by rw [HB2.out]; exact htop)
  rw [HP3.out, HB2.out, ← HZ.out, ← HG.out] at hinit
  rw [List.take_of_length_le (show lb.length ≤ k + 3 by rw [HL.out]; omega)] at hv
  have hv' : (val Q : Int) + ((65536 ^ (k + 3) : Nat) : Int) * ci = (val ((R.drop i).take (k + 3)) : Int) - (g0 : Int) * (val lb : Int) := by
    rw [hv, Int.neg_mul]; omega
  obtain ⟨c3, c4⟩ := take_carry hP0 hP0l hlb HL.out hQm hQ hg1 hv'
  have HR0 := Lib.hid hlenR
  have HP0l := Lib.hid hP0l
  have HST : Hid (TakeRel G N i k R lb base w (.int .u64 (g0 : Int)) (.int .i64 ci) W3) := ⟨Q, g0, ci, hQ, rfl, rfl, hQm, hg1, hinit, c3, c4, hv', hrow3, hg1'⟩
  clear hlenR hP0l hv hv' hinit hQ hrow3 hg1' hg3 hbW1
  go_loopw [6, 7] (fun g c wr => TakeRel G N i k R lb base w g c wr) (fun g _ _ => (intOf g).toNat)
  case atStart => exact HST.out
  case round =>
    obtain ⟨Q, gi, ci, hQ, rfl, rfl, hQm, hg1, hge, c3, c4, hv, hrow4, hg4⟩ := hrel
    have HQ := Lib.hid hQ
    have HV := Lib.hid hv
    have HGE := Lib.hid hge
    clear hQ hv hge
    have hRl := HR0.out
    have hLw : Lim wr (.slice (some ⟨bb, bo, none⟩) (k + 2) capb) lb := h.kept hg4 (fun r e => by cases e; simpa [Value.ownBlock] using hsep)
    by_cases hc : ci < 0
    · have hgt : min (val ((R.drop i).take (k + 3)) / val lb) 65535 + 1 ≤ gi := by
        have hv := HV.out
        have hq := val_lt hQm
        rw [HQ.out] at hq
        have hneg : (val ((R.drop i).take (k + 3)) : Int) < (gi : Int) * (val lb : Int) := by
          have : ((65536 ^ (k + 3) : Nat) : Int) * ci ≤ ((65536 ^ (k + 3) : Nat) : Int) * (-1) := Int.mul_le_mul_of_nonneg_left (by omega) (by omega)
          omega
        rw [← Int.natCast_mul] at hneg
        have hneg2 : val ((R.drop i).take (k + 3)) < gi * val lb := by omega
        have := Nat.div_lt_of_lt_mul (show val ((R.drop i).take (k + 3)) < val lb * gi by rw [Nat.mul_comm]; exact hneg2)
        omega
      have hgp : 1 ≤ gi := Nat.le_trans (Nat.le_add_left 1 _) hgt
      have hrl : (splice R i Q).length = N := by rw [splice_length (by rw [HQ.out]; omega)]; exact hRl
      have HGT := Lib.hid hgt
      have HRL := Lib.hid hrl
      clear hgt hRl hrl
      go_wp2_with (go_at_call 250; refine (addTimes_any G N i (k + 3) c0 base (splice R i Q) _ lb (splice_Lm hR hQm) hlb _ (by omega) (by omega) hin hN hc0 hc1 _ hrow4 hLw (by simpa [Value.ownBlock] using hsep)).mono ?_; rintro e W5 ⟨⟨Q', ci', hQ', hQm', rfl, c5, c6, hv', hrow5⟩, hg5⟩)
      rw [splice_splice (by rw [HQ.out, hQ']) (by rw [HQ.out, HR0.out]; exact hin)] at hrow5
      rw [splice_drop_take HQ.out (by rw [HR0.out]; exact hin), List.take_of_length_le (show lb.length ≤ k + 3 by rw [HL.out]; omega)] at hv'
      have hv2 : (val Q' : Int) + ((65536 ^ (k + 3) : Nat) : Int) * (ci + ci') = (val ((R.drop i).take (k + 3)) : Int) - ((gi - 1 : Nat) : Int) * (val lb : Int) := by
        have hv := HV.out
        rw [Int.mul_add, show ((gi - 1 : Nat) : Int) = (gi : Int) - 1 from by omega, Int.sub_mul]
        omega
      obtain ⟨c7, c8⟩ := take_carry hP0 HP0l.out hlb HL.out hQm' hQ' (by omega) hv2
      exact ⟨⟨Q', gi - 1, ci + ci', hQ', by go_num, rfl, hQm', by omega, Nat.le_sub_of_add_le HGT.out, c7, c8, hv2, hrow5, hg4.trans hg5⟩, by simp [intOf]; omega⟩
    · have hci : ci = 0 := by omega
      have hv := HV.out
      rw [hci, Int.mul_zero, Int.add_zero, ← Int.natCast_mul] at hv
      have hv3 : val Q = val ((R.drop i).take (k + 3)) - gi * val lb := by omega
      have hle : gi * val lb ≤ val ((R.drop i).take (k + 3)) := by omega
      have hV0 : 0 < val lb := by
        have e := val_take_drop lb k
        rw [HL.out, Nat.min_eq_left (by omega)] at e
        have : 0 < 65536 ^ k * val (lb.drop k) := Nat.mul_pos (Nat.pos_of_ne_zero (by simp)) (by rw [HB2.out]; exact htop)
        omega
      have hdiv : gi ≤ val ((R.drop i).take (k + 3)) / val lb := (Nat.le_div_iff_mul_le hV0).2 hle
      have heq : gi = min (val ((R.drop i).take (k + 3)) / val lb) 65535 := Nat.le_antisymm (Nat.le_min.2 ⟨hdiv, hg1⟩) HGE.out
      have HEQ := Lib.hid heq
      have HV3 := Lib.hid hv3
      clear hv hv3 hle hdiv heq hci hRl
      go_wp2
      go_ret
      rw [← HEQ.out]
      exact ⟨⟨Q, HQ.out, hQm, rfl, HV3.out, hrow4⟩, hg4⟩
end Go.Proofs.YtnnnhjgmgomlpaaGreat
namespace Go.Proofs.YtnnnhjgmgomlpaaGreat
open Go.RowKit Wh
theorem dig_last_ne {n : Nat} (h : n ≠ 0) : (dig n)[(dig n).length - 1]?.getD 0 ≠ 0 := by
  have hne : dig n ≠ [] := fun e => h ((dig_nil_iff n).1 e)
  have hp : 0 < (dig n).length := List.length_pos_iff.2 hne
  rw [getD_lt_length (by omega), ← List.getLast_eq_getElem]
  exact dig_last n hne
theorem Fr.own {B : Nat} {W : World} {v : Value} (h : Fr B W v) : ∀ r, r < B → v.ownBlock ≠ some r := by
  intro r hr
  rcases h with rfl | ⟨g, n, cap, cur, T, rfl, h2, _⟩
  · simp [Value.ownBlock]
  · simp [Value.ownBlock]; omega
theorem box2 {N : Nat} {T : TypeId} {w w2 : World} {v0 v1 vq vr : Value} {lq lr : List Nat} (bQ : Boxed w2 (N + 1) T v0) (bR : Boxed w2 (N + 1 + 1) T v1) (hq : LimF (N + 1 + 1 + 1) w2 vq lq) (hr : LimF (N + 1 + 1 + 1) w2 vr lr) (hB : Below N w w2) :
    ((w2.setCell ⟨N + 1, 0, none⟩ vq).setCell ⟨N + 1 + 1, 0, none⟩ vr).cell? ⟨N + 1, 0, none⟩ = some vq ∧ ((w2.setCell ⟨N + 1, 0, none⟩ vq).setCell ⟨N + 1 + 1, 0, none⟩ vr).cell? ⟨N + 1 + 1, 0, none⟩ = some vr ∧
      LimF N ((w2.setCell ⟨N + 1, 0, none⟩ vq).setCell ⟨N + 1 + 1, 0, none⟩ vr) vq lq ∧ LimF N ((w2.setCell ⟨N + 1, 0, none⟩ vq).setCell ⟨N + 1 + 1, 0, none⟩ vr) vr lr ∧ Below N w ((w2.setCell ⟨N + 1, 0, none⟩ vq).setCell ⟨N + 1 + 1, 0, none⟩ vr) := by
  have g1 := grownBy_setCell' w2 (N + 1) vq
  have g2 := grownBy_setCell' (w2.setCell ⟨N + 1, 0, none⟩ vq) (N + 1 + 1) vr
  refine ⟨((bQ.set vq).kept g2 (by simp)).cell, ((bR.kept g1 (by simp <;> omega)).set vr).cell, ?_, ?_, (hB.setCell (p := ⟨N + 1, 0, none⟩) (by simp) vq).setCell (p := ⟨N + 1 + 1, 0, none⟩) (by simp; omega) vr⟩
  · exact ((hq.kept g1 (fun r e => hq.2.own r (by cases e; omega))).kept g2 (fun r e => hq.2.own r (by cases e; omega))).mono (by omega)
  · exact ((hr.kept g1 (fun r e => hr.2.own r (by cases e; omega))).kept g2 (fun r e => hr.2.own r (by cases e; omega))).mono (by omega)
set_option maxRecDepth 100000 in
set_option maxHeartbeats 1000000 in
theorem divide_less (sa sb : Value) (m n : Nat) (hmn : m < n) (w : World) (h : Lim w sa (dig m)) (g : Lim w sb (dig n)) :
    Calls Tryz.prog 158 #[sa, sb] w fun e w' => (∃ vq vr, e = .returned (.tuple #[vq, vr]) ∧ LimF w.heap.size w' vq (dig (m / n)) ∧ LimF w.heap.size w' vr (dig (m % n))) ∧ Below w.heap.size w w' := by
  have hcmp : cmpL (dig m) (dig n) = -1 := by rw [cmp_dig]; simp [cmpN, hmn]
  have e1 : m / n = 0 := Nat.div_eq_of_lt hmn
  have e2 : m % n = m := Nat.mod_eq_of_lt hmn
  rw [e1, e2, dig_zero]
  obtain ⟨a, cap, rfl, _⟩ := id h
  obtain ⟨b, capb, rfl, _⟩ := id g
  have hw1 := fun W (hW : Below w.heap.size w W) => (compare_any _ _ _ _ (dig_Lm m) (dig_Lm n) W (h.below hW (Nat.le_refl _)) (g.below hW (Nat.le_refl _)))
  rw [hcmp] at hw1
  have HW1 := Lib.hid hw1
  have H := Lib.hid h
  clear hw1 hcmp e1 e2 h g
  have b1 : Below w.heap.size w (((w.alloc (.cells #[.slice b (dig n).length capb] 22)).alloc (.cells #[.slice none 0 0] 22)).alloc (.cells #[.slice none 0 0] 22)) :=
    (((Below.refl _ w).alloc (Nat.le_refl _) _).alloc (by simp) _).alloc (by simp; omega) _
  have bQ := (Boxed.new (w.alloc (.cells #[.slice b (dig n).length capb] 22)) 22 (.slice none 0 0)).alloc (.cells #[.slice none 0 0] 22)
  have bR := Boxed.new ((w.alloc (.cells #[.slice b (dig n).length capb] 22)).alloc (.cells #[.slice none 0 0] 22)) 22 (.slice none 0 0)
  rw [World.size_alloc] at bQ
  rw [World.size_alloc, World.size_alloc] at bR
  have HB := Lib.hid b1
  clear b1
  go_enter Tryz.func158, Tryz.ntmps158
  go_wp2_with (first | (go_at_call 153; refine (HW1.out _ HB.out).mono ?_; rintro e w1 ⟨rfl, hb1⟩; have bQ1 := Boxed.below bQ hb1; have bR1 := Boxed.below bR hb1; have hB1 := HB.out.trans (hb1.mono HB.out.size)) | (go_at_call 203; refine (copied_any _ _ _ (H.out.below hB1 (Nat.le_refl _))).mono ?_; rintro e w2 ⟨⟨v', rfl, hl', hown⟩, hb2⟩; obtain ⟨a', cap', rfl, _⟩ := id hl'; have bQ2 := Boxed.below bQ1 hb2; have bR2 := Boxed.below bR1 hb2; have cQ := bQ2.cell; have fQ := bQ2.frozen; have cR := bR2.cell; have fR := bR2.frozen))
  have hs1 : w.heap.size + 1 + 1 + 1 ≤ w1.heap.size := by have := hb1.size; simp at this; omega
  obtain ⟨x1, x2, x3, x4, x5⟩ := box2 bQ2 bR2 (LimF.nil _ _) ⟨hl', (Fr.of_owns hown).mono hs1⟩ (hB1.trans (hb2.mono (by omega)))
  exact bodyPost_ret (v := .tuple #[.slice none 0 0, .slice a' (dig m).length cap']) (by simp [results, Tryz.results158, go_sem, x1, x2]) rfl ⟨⟨_, _, rfl, x3, x4⟩, x5⟩
set_option maxRecDepth 100000 in
set_option maxHeartbeats 1000000 in
theorem divide_short (sa sb : Value) (m n : Nat) (hmn : n ≤ m) (hn0 : n ≠ 0) (hn3 : (dig n).length ≤ 3) (hm : (dig m).length ≤ 1048000) (w : World) (h : Lim w sa (dig m)) (g : Lim w sb (dig n)) :
    Calls Tryz.prog 158 #[sa, sb] w fun e w' => (∃ vq vr, e = .returned (.tuple #[vq, vr]) ∧ LimF w.heap.size w' vq (dig (m / n)) ∧ LimF w.heap.size w' vr (dig (m % n))) ∧ Below w.heap.size w w' := by
  have hcmp : 0 ≤ cmpL (dig m) (dig n) ∧ cmpL (dig m) (dig n) ≤ 1 := by
    rw [cmp_dig]; unfold cmpN
    rw [if_neg (by omega)]
    split <;> omega
  obtain ⟨cm, hcm⟩ : ∃ cm, cm = cmpL (dig m) (dig n) := ⟨_, rfl⟩
  rw [← hcm] at hcmp
  obtain ⟨cm1, cm2⟩ := hcmp
  have hnb : n < 281474976710656 := by
    have := (length_dig_le n 3).1 hn3
    simpa using this
  obtain ⟨a, cap, rfl, _⟩ := id h
  obtain ⟨b, capb, rfl, _⟩ := id g
  have hw1 := fun W (hW : Below w.heap.size w W) => (compare_any _ _ _ _ (dig_Lm m) (dig_Lm n) W (h.below hW (Nat.le_refl _)) (g.below hW (Nat.le_refl _)))
  rw [← hcm] at hw1
  have hw2 := fun W (hW : Below w.heap.size w W) => (word_any _ _ (dig_Lm n) W (g.below hW (Nat.le_refl _)))
  rw [val_dig, Nat.mod_eq_of_lt (show n < 18446744073709551616 by omega)] at hw2
  have hw3 := fun W (hW : Below w.heap.size w W) => (divideShort_any _ _ (dig_Lm m) hm n (Nat.pos_of_ne_zero hn0) hnb W (h.below hW (Nat.le_refl _)))
  rw [val_dig] at hw3
  have hmod : m % n < 18446744073709551616 := by have := Nat.mod_lt m (Nat.pos_of_ne_zero hn0); omega
  have HW1 := Lib.hid hw1
  have HW2 := Lib.hid hw2
  have HW3 := Lib.hid hw3
  clear hw1 hw2 hw3 hcm h g
  have b1 : Below w.heap.size w (((w.alloc (.cells #[.slice b (dig n).length capb] 22)).alloc (.cells #[.slice none 0 0] 22)).alloc (.cells #[.slice none 0 0] 22)) :=
    (((Below.refl _ w).alloc (Nat.le_refl _) _).alloc (by simp) _).alloc (by simp; omega) _
  have bB := ((Boxed.new w 22 (.slice b (dig n).length capb)).alloc (.cells #[.slice none 0 0] 22)).alloc (.cells #[.slice none 0 0] 22)
  have bQ := (Boxed.new (w.alloc (.cells #[.slice b (dig n).length capb] 22)) 22 (.slice none 0 0)).alloc (.cells #[.slice none 0 0] 22)
  have bR := Boxed.new ((w.alloc (.cells #[.slice b (dig n).length capb] 22)).alloc (.cells #[.slice none 0 0] 22)) 22 (.slice none 0 0)
  rw [World.size_alloc] at bQ
  rw [World.size_alloc, World.size_alloc] at bR
  have HB := Lib.hid b1
  clear b1
  obtain ⟨r, hr⟩ : ∃ r, r = m % n := ⟨_, rfl⟩
  have HR := Lib.hid hr
  rw [← hr] at hmod HW3 ⊢
  clear hr
  go_enter Tryz.func158, Tryz.ntmps158
  go_wp2_with (first
    | (go_at_call 153; refine (HW1.out _ HB.out).mono ?_; rintro e w1 ⟨rfl, hb1⟩; have bB1 := Boxed.below bB hb1; have cB1 := bB1.cell; have bQ1 := Boxed.below bQ hb1; have bR1 := Boxed.below bR hb1; have hB1 := HB.out.trans (hb1.mono HB.out.size))
    | (go_at_call 151; refine (HW2.out _ hB1).mono ?_; rintro e w2 ⟨rfl, hb2⟩; have bQ2 := Boxed.below bQ1 hb2; have bR2 := Boxed.below bR1 hb2; have hB2 := hB1.trans (hb2.mono hB1.size))
    | (go_at_call 156; refine (HW3.out _ hB2).mono ?_; rintro e w3 ⟨⟨vq, rfl, hlq⟩, hb3⟩; obtain ⟨aq, capq, rfl, _⟩ := id hlq.1; have bQ3 := Boxed.below bQ2 hb3; have bR3 := Boxed.below bR2 hb3; have hB3 := hB2.trans (hb3.mono hB2.size))
    | (go_at_call 129; refine (limbsOf_any _ hmod _).mono ?_; rintro e w4 ⟨⟨vr, rfl, hlr⟩, hb4⟩; obtain ⟨ar, capr, rfl, _⟩ := id hlr.1; have bQ4 := Boxed.below bQ3 hb4; have bR4 := Boxed.below bR3 hb4; have hB4 := hB3.trans (hb4.mono hB3.size); have cQ := bQ4.cell; have fQ := bQ4.frozen; have cR := bR4.cell; have fR := bR4.frozen))
  have hs1 : w.heap.size + 1 + 1 + 1 ≤ w1.heap.size := by have := hb1.size; simp at this; omega
  have hs2 := hb2.size
  have hs3 := hb3.size
  obtain ⟨x1, x2, x3, x4, x5⟩ := box2 bQ4 bR4 ((hlq.below hb4).mono (by omega)) (hlr.mono (by omega)) hB4
  exact bodyPost_ret (v := .tuple #[.slice aq (dig (m / n)).length capq, .slice ar (dig r).length capr]) (by simp [results, Tryz.results158, go_sem, x1, x2]) rfl ⟨⟨_, _, rfl, x3, x4⟩, x5⟩
end Go.Proofs.YtnnnhjgmgomlpaaGreat
namespace Go.Proofs.YtnnnhjgmgomlpaaGreat
open Go.RowKit Go.Shelf Wh
attribute [local go_sem] Oper.semAt_some
def U16 (b off n : Nat) (W : World) : Prop := ∀ j, j < n → ∃ u : Nat, W.cell? ⟨b, off + j, none⟩ = some (.int .u16 (u : Int))
def KpQ (Bs b off n : Nat) (W W' : World) : Prop := (∀ v, W.cell? ⟨Bs, 0, none⟩ = some v → W'.cell? ⟨Bs, 0, none⟩ = some v) ∧ (U16 b off n W → U16 b off n W')
theorem KpQ.refl (Bs b off n : Nat) (W : World) : KpQ Bs b off n W W := ⟨fun _ h => h, id⟩
theorem KpQ.trans {Bs b off n : Nat} {A B C : World} (h : KpQ Bs b off n A B) (k : KpQ Bs b off n B C) : KpQ Bs b off n A C := ⟨fun v e => k.1 v (h.1 v e), fun u => k.2 (h.2 u)⟩
theorem KpQ.putObj {Bs b off n : Nat} {w : World} (W : World) (l : Nat) (o o' : Obj) (_ : w.heap.size ≤ l) (h : W.heap[l]? = some o) (h1 : o.isCells = false) (_ : o.isWalk = false) : KpQ Bs b off n W (W.putObj l o') :=
  ⟨fun _ e => cell_kept e (grownBy_putObj' W l o') (fun r er => by cases er; exact ⟨_, h, h1⟩), fun u j hj => let ⟨x, hx⟩ := u j hj; ⟨x, cell_kept hx (grownBy_putObj' W l o') (fun r er => by cases er; exact ⟨_, h, h1⟩)⟩⟩
abbrev Iy (n : Nat) := { p : Nat × Nat // p.1 < n }
def ency (n : Nat) (x : Iy n) : Array Value := #[.int .i64 ((x.1.1 : Nat) : Int), .int .u16 ((x.1.2 : Nat) : Int)]
def Yall (n : Nat) (ys : List (Iy n)) : Prop := ys.map (fun x => x.1.1) = (List.range n).reverse
def Ypre (n : Nat) (pre : List (Iy n)) : Prop := ∃ k, k ≤ n ∧ pre.map (fun x => x.1.1) = (List.range n).reverse.take k
set_option maxRecDepth 100000 in
set_option maxHeartbeats 1000000 in
theorem down2_in (F : Fence) (n : Nat) (hf : F.fn 246) (hro : F.round = none) (hn : 1 ≤ n) (y Bs b off m cap : Nat) (hcap : m ≤ 70368744175616) (J Jx : List (Iy m) → World → Prop)
    (hY : ∀ pre x W, J pre W → pre.length < m → YieldAt F (n - 1) Tryz.prog y (ency m x) W fun e W' =>
      (e = .returned (.bool true) ∧ J (pre ++ [x]) W' ∧ KpQ Bs b off m W W') ∨ (e = .returned (.bool false) ∧ Jx (pre ++ [x]) W'))
    (W : World) (hBs : W.cell? ⟨Bs, 0, none⟩ = some (.slice (some ⟨b, off, none⟩) m cap)) (hu : U16 b off m W) (h0 : J [] W) :
    CallsIn F n Tryz.prog 246 #[.func (.yield y) #[] #[], .pointer (some ⟨Bs, 0, none⟩)] W fun e W' => (∃ v, e = .returned v) ∧
      ((∃ ys, Yall m ys ∧ J ys W') ∨ (∃ pre, Ypre m pre ∧ Jx pre W')) := by
  refine callsIn_of_wp Tryz.func246 rfl hf ?_ hro
  simp only [Tryz.ntmps246, List.size_toArray, List.length_cons, List.length_nil, Nat.reduceAdd, Nat.reduceSub, Array.replicate_succ, Array.replicate_zero, List.push_toArray, List.append_toArray, List.nil_append, List.cons_append]
  gi_wp2
  gi_loopw [3] (fun i wr => ∃ (j : Nat) (pre : List (Iy m)), j ≤ m ∧ i = .int .i64 ((j : Int) - 1) ∧ pre.map (fun x => x.1.1) = (List.range m).reverse.take (m - j) ∧ J pre wr ∧ KpQ Bs b off m W wr)
    (fun i _ => (intOf i + 1).toNat)
  case atStart => exact ⟨m, [], Nat.le_refl _, rfl, by simp, h0, KpQ.refl _ _ _ _ _⟩
  case round =>
    obtain ⟨j, pre, hj, rfl, hpre, hJs, hnx⟩ := hrel
    have hBx : wr.cell? ⟨Bs, 0, none⟩ = some (.slice (some ⟨b, off, none⟩) m cap) := hnx.1 _ hBs
    have hlen : pre.length = m - j := by have := congrArg List.length hpre; simp at this; omega
    have hux := hnx.2 hu
    cases j with
    | zero =>
      rw [show ((0 : Nat) : Int) - 1 = -1 from rfl]
      have hpre' : pre.map (fun x => x.1.1) = (List.range m).reverse := by
        rw [hpre, List.take_of_length_le (by simp)]
      clear hpre hlen hBs hu hux
      have H := Lib.hid hpre'
      clear hpre'
      gi_wp2
      go_end0
      exact ⟨⟨_, rfl⟩, .inl ⟨pre, H.out, hJs⟩⟩
    | succ k =>
      rw [show ((k + 1 : Nat) : Int) - 1 = (k : Int) from by omega]
      obtain ⟨x, hcx⟩ := hux k (by omega)
      have hlt : k < m := by omega
      obtain ⟨fn, tmps, assign, body, hy, hR⟩ := hY pre ⟨(k, x), hlt⟩ wr hJs (by omega)
      dsimp only [ency] at hy
      have hpre' : (pre ++ [(⟨(k, x), hlt⟩ : Iy m)]).map (fun x => x.1.1) = (List.range m).reverse.take (m - k) := by
        rw [List.map_append, hpre, take_down hj]; rfl
      have H := Lib.hid hpre'
      clear hpre hlen hBs hu hux hpre'
      gi_wp2
      refine hR.mono ?_
      rintro e W3 (⟨rfl, hJ3, hk3⟩ | ⟨rfl, hJx3⟩)
      · gi_wp2
        go_roundw
        case rel => exact ⟨k, _, by omega, by go_num, H.out, hJ3, hnx.trans hk3⟩
        case measure => simp [intOf]
      · gi_wp2
        refine bodyPost_ret (results_none rfl _ _ _) rfl ?_
        exact ⟨⟨_, rfl⟩, .inr ⟨_, ⟨m - k, by omega, H.out⟩, hJx3⟩⟩
theorem down2_stops (F : Fence) (n : Nat) (hf : F.fn 246) (hro : F.round = none) (hn : 1 ≤ n) (Bs b off m cap : Nat) (hm : m ≤ 70368744175616) (w : World) (hBs : Bs < w.heap.size)
    (hc : w.cell? ⟨Bs, 0, none⟩ = some (.slice (some ⟨b, off, none⟩) m cap)) (hb : b < w.heap.size) (hu : U16 b off m w) :
    SeqStopsK F n Tryz.prog 246 #[.pointer (some ⟨Bs, 0, none⟩)] (ency m) (KpQ Bs b off m) (Yall m) (Ypre m) m w := fun y J Jx W hW _ _ hY h0 =>
  down2_in F n hf hro hn y Bs b off m cap hm J Jx hY W ((hW.cell (p := ⟨Bs, 0, none⟩) hBs).trans hc) (fun j hj => let ⟨x, hx⟩ := hu j hj; ⟨x, (hW.cell (p := ⟨b, off + j, none⟩) hb).trans hx⟩) h0
end Go.Proofs.YtnnnhjgmgomlpaaGreat
