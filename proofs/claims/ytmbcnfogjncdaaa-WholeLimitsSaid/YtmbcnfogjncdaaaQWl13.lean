/- A part of the proofs about fractions. -/
import Derived.BigQuiet
import Derived.Deep.DeepCutAuto
import Derived.Deep.QuietTactic
import Derived.Deep.RegionHeld3
import Derived.Laws.OwnMore
import Derived.Outline
import Derived.OwnWalk
import Derived.Test.YtmbcnfogjncdaaaQWl1
import Derived.Test.YtmbcnfogjncdaaaQWl12
set_option maxRecDepth 100000
set_option maxHeartbeats 4000000
namespace Go.Proofs.Ytmbcnfogjncdaaa
open Go.RowKit Wh
def FIRel (n : Nat) (w wr : World) (v3 v4 : Value) : Prop := ∃ (m : Nat) (ds : List Nat), v3 = .int .u64 (m : Int) ∧ m < 18446744073709551616 ∧ dig n = ds ++ dig m ∧ wr.ownsRow (w.heap.size + 1) 22 1 v4 ds.length (cellsOf ds) ∧ Below w.heap.size w wr ∧ Bx wr w.heap.size (.bool false) (.slice none 0 0)
theorem cellsOf_snoc (ds : List Nat) (x : Nat) : cellsOf ds ++ [.int .u16 (x : Int)] = cellsOf (ds ++ [x]) := by simp [cellsOf]
theorem refFromInt_any (n : Int) (h1 : -9223372036854775808 ≤ n) (h2 : n ≤ 9223372036854775807) (w : World) :
    Calls Try.prog 48 #[.int .i64 n] w fun e w' => (∃ v, e = .returned v ∧ NumF w.heap.size w' v n) ∧ Below w.heap.size w w' := by
  obtain ⟨i0, hi, hz0, hz1, hz2⟩ := info_parts Try.infoU
  have hd4 : (dig n.natAbs).length ≤ 4 := (length_dig_le _ 4).2 (by show n.natAbs < 18446744073709551616; omega)
  have hw2 := fun W s (hl : Lim W s (dig n.natAbs)) => refMake_any (decide (n < 0)) s _ W hl
  rw [num_sign] at hw2
  have HW2 := Lib.hid hw2
  clear hw2
  have hz := (Below.refl w.heap.size w).alloc (Nat.le_refl _) (.cells #[.bool false, .slice none 0 0] 26)
  have x4 := Bx.new w (.bool false) (.slice none 0 0)
  have e2 : n < 0 → IntKind.u64.wrap (-IntKind.u64.wrap n) = ((n.natAbs : Nat) : Int) := fun h => by rw [IntKind.wrap_u64, IntKind.wrap_u64]; omega
  have e3 : 0 ≤ n → n = ((n.natAbs : Nat) : Int) := fun h => by omega
  have E2 := Lib.hid e2
  have E3 := Lib.hid e3
  have HD4 := Lib.hid hd4
  have hna : n.natAbs < 18446744073709551616 := by omega
  clear e2 e3 hd4
  rcases Int.lt_or_le n 0 with h0 | h0
  · have eb : decide (n < 0) = true := decide_eq_true h0
    rw [eb] at HW2
    have EB := Lib.hid eb
    clear eb
    go_enter Try.func48, Try.ntmps48
    go_wp2
    go_loopw [3, 4] (fun v3 v4 wr => FIRel n.natAbs w wr v3 v4) (fun v3 _ _ => (intOf v3).toNat)
    case atStart => exact ⟨n.natAbs, [], by rw [← E2.out h0], hna, rfl, World.ownsRow_nil _ _ _ _, hz, x4⟩
    case round =>
      obtain ⟨m, ds, rfl, hm, hds, hrow, hB, y4⟩ := hrel
      have HDS := Lib.hid hds
      clear hds
      rcases Nat.eq_zero_or_pos m with hm0 | hm0
      · subst hm0
        have hD : dig n.natAbs = ds := by rw [HDS.out, dig_zero, List.append_nil]
        have hl : Lim wr u4 ds := Lim.of_owns hrow (by rw [← hD]; have := HD4.out; omega)
        have hf := Fr.of_owns hrow
        rw [← hD] at hl
        obtain ⟨a3, c3, rfl⟩ := lim_slice hl
        clear hrow hD
        go_wp2_with (go_at_call 38; refine (HW2.out _ _ hl).mono ?_; rintro e w3 ⟨rfl, hb3⟩; have hB3 := hB.trans (hb3.mono hB.size); have v4 := y4.on hb3; obtain ⟨p4, p4'⟩ := v4.cells; obtain ⟨f4, f4'⟩ := v4.free)
        obtain ⟨k4, k4'⟩ := (v4.put (.bool true) (.slice a3 (dig n.natAbs).length c3)).cells
        have hlf : LimF (w.heap.size + 1) wr (.slice a3 (dig n.natAbs).length c3) (dig n.natAbs) := ⟨hl, hf⟩
        have hl3 := ((hlf.below hb3).put (B' := w.heap.size) (Nat.lt_succ_self _) (.bool true) (.slice a3 (dig n.natAbs).length c3)).mono (Nat.le_succ _)
        exact bodyPost_ret (v := .agg #[.bool true, .slice a3 (dig n.natAbs).length c3]) (by simp [results, Try.results48, go_sem, k4, k4']) rfl ⟨⟨_, rfl, _, by rw [EB.out], hl3⟩, Below.put hB3 (Nat.le_refl _) _ _⟩
      · have hm1 : (0 : Int) < (m : Int) := by omega
        have hlen : ds.length ≤ 4 := by have := HD4.out; rw [HDS.out, List.length_append] at this; omega
        have eX : cellsOf ds ++ [Value.int .u16 ((m : Int) % 65536)] = cellsOf (ds ++ [m % 65536]) := by rw [← cellsOf_snoc]; simp
        have HE := Lib.hid eX
        have hN : dig n.natAbs = (ds ++ [m % 65536]) ++ dig (m / 65536) := by rw [HDS.out, dig_pos (show m ≠ 0 by omega)]; simp
        have HN := Lib.hid hN
        have hmi : (m : Int) < 18446744073709551616 := by omega
        clear eX hN
        go_wp2_with (at_builtin; refine wpList_append_own _ rfl _ _ 24 rfl (w.heap.size + 1) 22 i0 (.int .u16 0) 1 2 Try.underlying24 hi hz0 hz1 hz2 rfl (by decide) _ _ _ rfl (hrow.alloc _) ⟨wr.heap.size, 0, none⟩ 1 1 [.int .u16 ((m : Int) % 65536)] rfl rfl (cell_one_new _ _ _) (by simp [Value.oneCell']) (by unfold maxLen; omega) (by omega) (by simp; have := y4.lt; omega) ?_; intro v' w2 hrow2 hgrow _)
        rw [HE.out] at hrow2
        have hne : u4.ownBlock ≠ some w.heap.size := fun e => by have := (hrow.lt _ e).1; omega
        have y42 : Bx w2 w.heap.size (.bool false) (.slice none 0 0) := (hgrow.block w.heap.size ((y4.alloc _).lt) (fun e => hne e.symm)).trans (y4.alloc _)
        have hB2 := (hB.alloc hB.size (.cells #[.int .u16 ((m : Int) % 65536)] 22)).grown hgrow (by simp; have := hB.size; omega) (fun k e => by have := (hrow.lt k e).1; omega)
        go_roundw
        case rel => exact ⟨m / 65536, ds ++ [m % 65536], by go_num, by omega, HN.out, by simpa using hrow2, hB2, y42⟩
        case measure => simp [intOf]; omega
  · go_enter Try.func48, Try.ntmps48
    go_wp2
    go_loopw [3, 4] (fun v3 v4 wr => FIRel n.natAbs w wr v3 v4) (fun v3 _ _ => (intOf v3).toNat)
    case atStart => exact ⟨n.natAbs, [], by rw [← E3.out h0], hna, rfl, World.ownsRow_nil _ _ _ _, hz, x4⟩
    case round =>
      obtain ⟨m, ds, rfl, hm, hds, hrow, hB, y4⟩ := hrel
      have HDS := Lib.hid hds
      clear hds
      rcases Nat.eq_zero_or_pos m with hm0 | hm0
      · subst hm0
        have hD : dig n.natAbs = ds := by rw [HDS.out, dig_zero, List.append_nil]
        have hl : Lim wr u4 ds := Lim.of_owns hrow (by rw [← hD]; have := HD4.out; omega)
        have hf := Fr.of_owns hrow
        rw [← hD] at hl
        obtain ⟨a3, c3, rfl⟩ := lim_slice hl
        clear hrow hD
        go_wp2_with (go_at_call 38; refine (HW2.out _ _ hl).mono ?_; rintro e w3 ⟨rfl, hb3⟩; have hB3 := hB.trans (hb3.mono hB.size); have v4 := y4.on hb3; obtain ⟨p4, p4'⟩ := v4.cells; obtain ⟨f4, f4'⟩ := v4.free)
        obtain ⟨k4, k4'⟩ := (v4.put (.bool (decide (n < 0))) (.slice a3 (dig n.natAbs).length c3)).cells
        have hlf : LimF (w.heap.size + 1) wr (.slice a3 (dig n.natAbs).length c3) (dig n.natAbs) := ⟨hl, hf⟩
        have hl3 := ((hlf.below hb3).put (B' := w.heap.size) (Nat.lt_succ_self _) (.bool (decide (n < 0))) (.slice a3 (dig n.natAbs).length c3)).mono (Nat.le_succ _)
        exact bodyPost_ret (v := .agg #[.bool (decide (n < 0)), .slice a3 (dig n.natAbs).length c3]) (by simp [results, Try.results48, go_sem, k4, k4']) rfl ⟨⟨_, rfl, _, rfl, hl3⟩, Below.put hB3 (Nat.le_refl _) _ _⟩
      · have hm1 : (0 : Int) < (m : Int) := by omega
        have hlen : ds.length ≤ 4 := by have := HD4.out; rw [HDS.out, List.length_append] at this; omega
        have eX : cellsOf ds ++ [Value.int .u16 ((m : Int) % 65536)] = cellsOf (ds ++ [m % 65536]) := by rw [← cellsOf_snoc]; simp
        have HE := Lib.hid eX
        have hN : dig n.natAbs = (ds ++ [m % 65536]) ++ dig (m / 65536) := by rw [HDS.out, dig_pos (show m ≠ 0 by omega)]; simp
        have HN := Lib.hid hN
        have hmi : (m : Int) < 18446744073709551616 := by omega
        clear eX hN
        go_wp2_with (at_builtin; refine wpList_append_own _ rfl _ _ 24 rfl (w.heap.size + 1) 22 i0 (.int .u16 0) 1 2 Try.underlying24 hi hz0 hz1 hz2 rfl (by decide) _ _ _ rfl (hrow.alloc _) ⟨wr.heap.size, 0, none⟩ 1 1 [.int .u16 ((m : Int) % 65536)] rfl rfl (cell_one_new _ _ _) (by simp [Value.oneCell']) (by unfold maxLen; omega) (by omega) (by simp; have := y4.lt; omega) ?_; intro v' w2 hrow2 hgrow _)
        rw [HE.out] at hrow2
        have hne : u4.ownBlock ≠ some w.heap.size := fun e => by have := (hrow.lt _ e).1; omega
        have y42 : Bx w2 w.heap.size (.bool false) (.slice none 0 0) := (hgrow.block w.heap.size ((y4.alloc _).lt) (fun e => hne e.symm)).trans (y4.alloc _)
        have hB2 := (hB.alloc hB.size (.cells #[.int .u16 ((m : Int) % 65536)] 22)).grown hgrow (by simp; have := hB.size; omega) (fun k e => by have := (hrow.lt k e).1; omega)
        go_roundw
        case rel => exact ⟨m / 65536, ds ++ [m % 65536], by go_num, by omega, HN.out, by simpa using hrow2, hB2, y42⟩
        case measure => simp [intOf]; omega
theorem num_any (n : Int) (h1 : -9223372036854775808 ≤ n) (h2 : n ≤ 9223372036854775807) (w : World) :
  Calls Try.prog 28 #[.int .i64 n] w fun e w' => (∃ v, e = .returned v ∧ NumF w.heap.size w' v n) ∧ Below w.heap.size w w' := by
 have hw1 := fun W => FromInt_any n h1 h2 W
 have HW1 := Lib.hid hw1
 clear hw1 h1 h2
 have hz := (Below.refl w.heap.size w).alloc (Nat.le_refl _) (.cells #[.bool false, .slice none 0 0] 26)
 have x4 := Bx.new w (.bool false) (.slice none 0 0)
 go_enter Try.func28, Try.ntmps28
 go_wp2_with (go_at_call 44; refine (HW1.out _).mono ?_; rintro e w2 ⟨⟨v, rfl, ⟨s, rfl, hl⟩⟩, hb2⟩; obtain ⟨a3, c3, rfl⟩ := lf_slice hl; have hB2 := hz.trans (hb2.mono hz.size); have z4 := x4.on hb2; obtain ⟨p4, p4'⟩ := z4.cells; obtain ⟨f4, f4'⟩ := z4.free)
 obtain ⟨k4, k4'⟩ := (z4.put (.bool (decide (n < 0))) (.slice a3 (dig n.natAbs).length c3)).cells
 have hl3 := (hl.put (B' := w.heap.size) (by simp) (.bool (decide (n < 0))) (.slice a3 (dig n.natAbs).length c3)).mono hz.size
 exact bodyPost_ret (v := .agg #[.bool (decide (n < 0)), .slice a3 (dig n.natAbs).length c3]) (by simp [results, Try.results28, go_sem, k4, k4']) rfl ⟨⟨_, rfl, _, rfl, hl3⟩, Below.put hB2 (Nat.le_refl _) _ _⟩
theorem num_eq_iff (a b : Int) : (decide (a < 0) = decide (b < 0) ∧ dig a.natAbs = dig b.natAbs) ↔ a = b := by
  constructor
  · rintro ⟨h1, h2⟩
    have h3 := congrArg val h2
    rw [val_dig, val_dig] at h3
    have h4 := decide_eq_decide.1 h1
    omega
  · rintro rfl; exact ⟨rfl, rfl⟩
theorem refSame_num (va vb : Value) (a b : Int) (w : World) (h : Num w va a) (g : Num w vb b) :
  Calls Try.prog 25 #[va, vb] w fun e w' => e = .returned (.bool (decide (a = b))) ∧ Below w.heap.size w w' := by
 obtain ⟨s, rfl, h⟩ := h
 obtain ⟨s', rfl, g⟩ := g
 have := refSame_any (decide (a < 0)) s _ (decide (b < 0)) s' _ w h g
 rwa [show decide (decide (a < 0) = decide (b < 0) ∧ dig a.natAbs = dig b.natAbs) = decide (a = b) from decide_eq_decide.2 (num_eq_iff a b)] at this
theorem is_any (v : Value) (n : Int) (h1 : -9223372036854775808 ≤ n) (h2 : n ≤ 9223372036854775807) (w : World) (h : Num w v n) :
  Calls Try.prog 31 #[v, .int .i64 0, .int .i64 n] w fun e w' => e = .returned (.bool true) ∧ Below w.heap.size w w' := by
 obtain ⟨s, rfl, h⟩ := h
 have hw1 := fun W => refFromInt_any n h1 h2 W
 have HW1 := Lib.hid hw1
 have hw2 := fun vb W (hW : Below w.heap.size w W) (hn : Num W vb n) => refSame_num (.agg #[.bool (decide (n < 0)), s]) vb n n W ⟨s, rfl, h.below hW (Nat.le_refl _)⟩ hn
 rw [decide_eq_true rfl] at hw2
 have HW2 := Lib.hid hw2
 obtain ⟨aa, ca, rfl⟩ := lim_slice h
 clear hw1 hw2 h h1 h2
 obtain ⟨ja, hja⟩ : ∃ k, k = (dig n.natAbs).length := ⟨_, rfl⟩
 obtain ⟨na, hna⟩ : ∃ b, b = decide (n < 0) := ⟨_, rfl⟩
 rw [← hja, ← hna] at HW2
 rw [← hja, ← hna]
 clear hja hna
 have hz := (Below.refl w.heap.size w).alloc (Nat.le_refl _) (.cells #[.bool na, .slice aa ja ca] 26)
 have x2 := Bx.new w (.bool na) (.slice aa ja ca)
 obtain ⟨p2, p2'⟩ := x2.cells
 go_enter Try.func31, Try.ntmps31
 go_wp2_with fail
 go_region_held3 (fun w' => w'.cell? ⟨w.heap.size, 0, none⟩ = some (.bool na) ∧ w'.cell? ⟨w.heap.size, 1, none⟩ = some (.slice aa ja ca))
  (first | go_keep | exact ⟨q2, q2'⟩)
  (first
  | (go_at_call 48; refine (HW1.out _).mono ?_; rintro e w2 ⟨⟨vb, rfl, hnb⟩, hb2⟩; have hB2 := hz.drew.trans (hb2.mono hz.size); have z2 := x2.ond hb2; obtain ⟨q2, q2'⟩ := z2.cells)
  | (go_at_call 25; refine (HW2.out _ _ hB2 hnb.num).mono ?_; rintro e w3 ⟨rfl, hb3⟩; have hB3 := hB2.trans (hb3.mono hB2.size); have u2 := z2.on hb3; obtain ⟨r2, r2'⟩ := u2.cells))
 go_wp2
 go_ret
 exact ⟨rfl, hB3⟩
end Go.Proofs.Ytmbcnfogjncdaaa
namespace Wh
theorem val_put {l : List Nat} {i x : Nat} (h : i < l.length) : val (l.set i x) + 65536 ^ i * l[i]?.getD 0 = val l + 65536 ^ i * x := by
 induction l generalizing i with
 | nil => simp at h
 | cons y l ih =>
  cases i with
  | zero => simp [val_cons]; omega
  | succ i =>
   have := ih (i := i) (by simpa using h)
   simp only [List.set_cons_succ, val_cons, Nat.pow_succ, List.getElem?_cons_succ] at this ⊢
   have e1 : 65536 * (65536 ^ i * x) = 65536 ^ i * 65536 * x := by rw [← Nat.mul_assoc, Nat.mul_comm 65536]
   have e2 : 65536 * (65536 ^ i * l[i]?.getD 0) = 65536 ^ i * 65536 * l[i]?.getD 0 := by rw [← Nat.mul_assoc, Nat.mul_comm 65536]
   omega
theorem val_take_next (l : List Nat) (k : Nat) : val (l.take (k + 1)) = val (l.take k) + 65536 ^ k * (l[k]?.getD 0) := by
 rcases Nat.lt_or_ge k l.length with h | h
 · exact val_take_succ h
 · rw [List.take_of_length_le (by omega), List.take_of_length_le h, List.getElem?_eq_none h]; simp
theorem val_snoc (l : List Nat) (x : Nat) : val (l ++ [x]) = val l + 65536 ^ l.length * x := by
 rw [val_append]; simp [val]
theorem dig_of_val {l : List Nat} {n : Nat} (hl : Lm l) (hv : val l = n) (h : l.length = 0 ∨ 65536 ^ (l.length - 1) ≤ n) : l = dig n := by
  refine val_inj hl (dig_Lm n) ?_ (by rw [hv, val_dig])
  have h1 : (dig n).length ≤ l.length := (length_dig_le _ _).2 (by rw [← hv]; exact val_lt hl)
  rcases h with h | h
  · omega
  · rcases Nat.eq_zero_or_pos l.length with h0 | h0
    · omega
    · have : ¬ (dig n).length ≤ l.length - 1 := fun e => by have := (length_dig_le _ _).1 e; omega
      omega
theorem trim_eq {l : List Nat} (hl : Lm l) (n : Nat) (hn : n ≤ l.length) (h0 : ∀ j, n ≤ j → j < l.length → l[j]?.getD 0 = 0) (h1 : n = 0 ∨ l[n - 1]?.getD 0 ≠ 0) : l.take n = dig (val l) := by
  have hv : val (l.take n) = val l := by
    rw [val_take_drop l n]
    have : val (l.drop n) = 0 := val_zero_iff.2 fun x hx => by
      obtain ⟨j, hj, rfl⟩ := List.mem_iff_getElem.1 hx
      have := h0 (n + j) (by omega) (by simp at hj; omega)
      rw [List.getElem_drop]
      rw [getD_lt_length (by simp at hj; omega)] at this
      exact this
    rw [this]; simp
  refine dig_of_val (hl.take n) hv ?_
  rw [List.length_take, Nat.min_eq_left hn]
  rcases h1 with h1 | h1
  · exact .inl h1
  · rcases Nat.eq_zero_or_pos n with h2 | h2
    · exact .inl h2
    · refine .inr ?_
      rw [← hv]
      obtain ⟨m, rfl⟩ : ∃ m, n = m + 1 := ⟨n - 1, by omega⟩
      rw [val_take_next]
      simp only [Nat.add_sub_cancel] at h1 ⊢
      have : 65536 ^ m * 1 ≤ 65536 ^ m * l[m]?.getD 0 := Nat.mul_le_mul_left _ (by omega)
      omega
theorem plus_step {a b l : List Nat} {i n : Nat} (hi : l.length = i) (h : val (a.take i) + val (b.take i) = val l + 65536 ^ i * n) :
  val (a.take (i + 1)) + val (b.take (i + 1)) = val (l ++ [(n + a[i]?.getD 0 + b[i]?.getD 0) % 65536]) + 65536 ^ (i + 1) * ((n + a[i]?.getD 0 + b[i]?.getD 0) / 65536) := by
 rw [val_take_next, val_take_next, val_snoc, hi, Nat.pow_succ]
 generalize a[i]?.getD 0 = x
 generalize b[i]?.getD 0 = y
 have e := Nat.mod_add_div (n + x + y) 65536
 generalize (n + x + y) % 65536 = r at e ⊢
 generalize (n + x + y) / 65536 = q at e ⊢
 have e2 : 65536 ^ i * (r + 65536 * q) = 65536 ^ i * (n + x + y) := by rw [e]
 generalize 65536 ^ i = P at h e2 ⊢
 rw [Nat.mul_assoc P 65536 q]
 rw [Nat.mul_add] at e2
 rw [Nat.mul_add, Nat.mul_add] at e2
 omega
theorem plus_top {a b l : List Nat} {i n : Nat} (h : val (a.take i) + val (b.take i) = val l + 65536 ^ i * n) (hc : i < a.length ∧ a = dig (val a) ∨ i < b.length ∧ b = dig (val b) ∨ 0 < n) : 65536 ^ i ≤ val a + val b := by
  rcases hc with ⟨h1, h2⟩ | ⟨h1, h2⟩ | h1
  · rw [h2] at h1
    have := pow_le_of_length h1
    omega
  · rw [h2] at h1
    have := pow_le_of_length h1
    omega
  · have h3 := val_take_drop a i
    have h4 := val_take_drop b i
    have : 65536 ^ i * 1 ≤ 65536 ^ i * n := Nat.mul_le_mul_left _ h1
    omega
theorem minus_step {a b l : List Nat} {i w : Nat} (hw : w ≤ 1) (ha : a[i]?.getD 0 < 65536) (hb : b[i]?.getD 0 < 65536) (hi : l.length = i) (h : val (a.take i) + 65536 ^ i * w = val (b.take i) + val l) :
  val (a.take (i + 1)) + 65536 ^ (i + 1) * (1 - (65536 + a[i]?.getD 0 - w - b[i]?.getD 0) / 65536) = val (b.take (i + 1)) + val (l ++ [(65536 + a[i]?.getD 0 - w - b[i]?.getD 0) % 65536]) ∧ 1 - (65536 + a[i]?.getD 0 - w - b[i]?.getD 0) / 65536 ≤ 1 := by
 rw [val_take_next, val_take_next, val_snoc, hi, Nat.pow_succ]
 generalize a[i]?.getD 0 = x at ha ⊢
 generalize b[i]?.getD 0 = y at hb ⊢
 refine ⟨?_, by omega⟩
 have e : x + 65536 * (1 - (65536 + x - w - y) / 65536) = y + w + (65536 + x - w - y) % 65536 := by omega
 generalize 1 - (65536 + x - w - y) / 65536 = q at e ⊢
 generalize (65536 + x - w - y) % 65536 = r at e ⊢
 have e2 : 65536 ^ i * (x + 65536 * q) = 65536 ^ i * (y + w + r) := by rw [e]
 generalize 65536 ^ i = P at h e2 ⊢
 rw [Nat.mul_assoc P 65536 q]
 rw [Nat.mul_add, Nat.mul_add, Nat.mul_add] at e2
 omega
theorem minus_end {a b l : List Nat} {w : Nat} (hw : w ≤ 1) (hle : val b ≤ val a) (hb : b.length ≤ a.length) (hl : l.length = a.length) (hlm : Lm l) (h : val (a.take a.length) + 65536 ^ a.length * w = val (b.take a.length) + val l) : val l = val a - val b := by
  rw [List.take_of_length_le (Nat.le_refl _), List.take_of_length_le hb] at h
  have := val_lt hlm
  rw [hl] at this
  rcases Nat.eq_zero_or_pos w with h0 | h0
  · subst h0; omega
  · have : w = 1 := by omega
    subst this; omega
theorem times_step {a b o : List Nat} {i k n V : Nat} (hk : i + k < o.length)
  (h : val o + 65536 ^ (i + k) * n = V + 65536 ^ i * (a[i]?.getD 0 * val (b.take k))) :
  val (o.set (i + k) ((n + a[i]?.getD 0 * b[k]?.getD 0 + o[i + k]?.getD 0) % 65536)) + 65536 ^ (i + (k + 1)) * ((n + a[i]?.getD 0 * b[k]?.getD 0 + o[i + k]?.getD 0) / 65536) = V + 65536 ^ i * (a[i]?.getD 0 * val (b.take (k + 1))) := by
 have e1 := val_put (l := o) (i := i + k) (x := (n + a[i]?.getD 0 * b[k]?.getD 0 + o[i + k]?.getD 0) % 65536) hk
 rw [val_take_next]
 generalize a[i]?.getD 0 = x at h e1 ⊢
 generalize b[k]?.getD 0 = y at e1 ⊢
 generalize o[i + k]?.getD 0 = z at e1 ⊢
 have e := Nat.mod_add_div (n + x * y + z) 65536
 generalize (n + x * y + z) % 65536 = r at e e1 ⊢
 generalize (n + x * y + z) / 65536 = q at e ⊢
 have e2 : 65536 ^ (i + k) * (r + 65536 * q) = 65536 ^ (i + k) * (n + x * y + z) := by rw [e]
 rw [Nat.mul_add x, Nat.mul_add (65536 ^ i), ← Nat.add_assoc V, ← h, ← Nat.add_assoc i k 1, Nat.pow_succ, Nat.mul_assoc _ 65536 q]
 rw [Nat.mul_add, Nat.mul_add, Nat.mul_add] at e2
 have e3 : 65536 ^ i * (x * (65536 ^ k * y)) = 65536 ^ (i + k) * (x * y) := by
  rw [Nat.pow_add, Nat.mul_assoc, ← Nat.mul_assoc x, Nat.mul_comm x, Nat.mul_assoc (65536 ^ k)]
 rw [e3]
 omega
theorem times_bound {n x y z : Nat} (hn : n < 65536) (hx : x < 65536) (hy : y < 65536) (hz : z < 65536) : n + x * y + z < 4294967296 := by
 have : x * y ≤ 65535 * 65535 := Nat.mul_le_mul (by omega) (by omega)
 omega
end Wh
namespace Go.Proofs.Ytmbcnfogjncdaaa
open Go.RowKit Wh
def TrimRel (l : List Nat) (w : World) (n : Value) (wr : World) : Prop := ∃ k : Nat, k ≤ l.length ∧ n = .int .i64 (k : Int) ∧ (∀ j, k ≤ j → j < l.length → l[j]?.getD 0 = 0) ∧ Below w.heap.size w wr
theorem Fr.upto {B : Nat} {W : World} {a : Option Addr} {n k cap : Nat} (h : Fr B W (.slice a n cap)) (hk : k ≤ n) : Fr B W (.slice a k cap) := by
  rcases h with h | ⟨g, n', cap', cur, T, h1, h2, h3, h4⟩
  · injection h with e1 e2 e3
    subst e1 e2 e3
    obtain rfl : k = 0 := by omega
    exact .inl rfl
  · injection h1 with e1 e2 e3
    subst e1 e2 e3
    exact .inr ⟨g, k, _, cur, T, rfl, h2, h3, h4⟩
theorem refTrim_any (sv : Value) (l : List Nat) (hl : Lm l) (w : World) (h : Lim w sv l) :
    Calls Try.prog 51 #[sv] w fun e w' => (∃ v', e = .returned v' ∧ Lim w' v' (dig (val l)) ∧ ∀ B, Fr B w sv → Fr B w' v') ∧ Below w.heap.size w w' := by
  obtain ⟨a, cap, rfl, hlc, ⟨hcm, hcl, hcn⟩, hcs⟩ := id h
  have HL := Lib.hid h
  clear hcn hcs h
  go_enter Try.func51, Try.ntmps51
  go_wp2
  go_loopw [3] (fun n wr => TrimRel l w n wr) (fun n _ => (intOf n).toNat)
  case atStart => exact ⟨l.length, Nat.le_refl _, rfl, fun j h1 h2 => by omega, Below.refl _ _⟩
  case round =>
    obtain ⟨k, hk, rfl, hz, hB⟩ := hrel
    have HZ := Lib.hid hz
    clear hz
    have hlr := HL.out.below hB (Nat.le_refl _)
    rcases Nat.eq_zero_or_pos k with h0 | h0
    · subst h0
      have HT := Lib.hid (trim_eq hl 0 (by omega) HZ.out (.inl rfl))
      have HLR := Lib.hid hlr
      clear hlr
      go_wp2
      go_ret
      refine ⟨⟨_, rfl, ?_, fun B hB' => ?_⟩, hB⟩
      · rw [← HT.out]
        exact HLR.out.take (by omega)
      · exact (hB'.below hB).upto (Nat.zero_le _)
    · have hlt : 0 < (k : Int) := by omega
      obtain ⟨b, off, rfl⟩ := lim_addr hlr (by omega)
      have hc := cell_of_lim hlr (k - 1) (by omega)
      have HLR := Lib.hid hlr
      clear hlr
      by_cases hu : l[k - 1]?.getD 0 = 0
      · rw [hu] at hc
        have HZ2 : Hid (∀ j, k - 1 ≤ j → j < l.length → l[j]?.getD 0 = 0) := Lib.hid (fun j h1 h2 => by
          by_cases e : j = k - 1
          · subst e; exact hu
          · exact HZ.out j (by omega) h2)
        clear hu
        go_wp2
        go_roundw
        case rel => exact ⟨k - 1, by omega, by go_num, HZ2.out, hB⟩
        case measure => simp [intOf]; omega
      · have hu' : (((l[k - 1]?.getD 0 : Nat) : Int) == 0) = false := by rw [beq_eq_false_iff_ne]; omega
        have HT := Lib.hid (trim_eq hl k hk HZ.out (.inr hu))
        clear hu
        go_wp2
        go_ret
        refine ⟨⟨_, rfl, ?_, fun B hB' => (hB'.below hB).upto hk⟩, hB⟩
        rw [← HT.out]
        exact HLR.out.take hk
end Go.Proofs.Ytmbcnfogjncdaaa
namespace Go.Proofs.Ytmbcnfogjncdaaa
open Go.RowKit Wh
attribute [local go_sem] Oper.semAt_some
theorem zeros_made (n : Nat) : (madeCells (Value.int .u16 0).cells (n * 1)).toList = cellsOf (List.replicate n 0) := by
  have e : (Value.int .u16 0).cells = #[.int .u16 0] := rfl
  rw [e, Nat.mul_one]
  unfold madeCells cellsOf
  apply List.ext_getElem
  · simp
  · intro i h1 h2
    simp [Nat.mod_one]
theorem Lm.zeros (n : Nat) : Lm (List.replicate n 0) := fun x hx => by rw [List.eq_of_mem_replicate hx]; decide
theorem val_zeros (n : Nat) : val (List.replicate n 0) = 0 := val_replicate_zero n
end Go.Proofs.Ytmbcnfogjncdaaa
namespace Go.Proofs.Ytmbcnfogjncdaaa
open Go.RowKit Wh
attribute [local go_sem] Oper.semAt_some
end Go.Proofs.Ytmbcnfogjncdaaa
namespace Go.Proofs.Ytmbcnfogjncdaaa
open Go.RowKit Wh
theorem len_lt {A B : Nat} (h : (dig A).length < (dig B).length) : A < B := Nat.lt_of_lt_of_le (lt_pow_length A) (pow_le_of_length h)
theorem lt_at {A B k : Nat} (hl : (dig A).length = (dig B).length) (hk : k < (dig A).length) (hd : (dig A).drop (k + 1) = (dig B).drop (k + 1)) (hx : (dig A)[k]?.getD 0 < (dig B)[k]?.getD 0) : A < B := by
 have e1 := val_take_drop (dig A) (k + 1)
 have e2 := val_take_drop (dig B) (k + 1)
 rw [val_dig, val_take_next, hd, Nat.min_eq_left (by omega)] at e1
 rw [val_dig, val_take_next, Nat.min_eq_left (by omega)] at e2
 have h1 : val ((dig A).take k) < 65536 ^ k := by
  have := val_lt ((dig_Lm A).take k)
  rwa [List.length_take, Nat.min_eq_left (by omega)] at this
 have h2 : 65536 ^ k * ((dig A)[k]?.getD 0 + 1) ≤ 65536 ^ k * (dig B)[k]?.getD 0 := Nat.mul_le_mul_left _ hx
 rw [Nat.mul_add, Nat.mul_one] at h2
 omega
theorem drop_more {l l' : List Nat} {k : Nat} (hl : l.length = l'.length) (hk : k < l.length) (hd : l.drop (k + 1) = l'.drop (k + 1)) (hx : l[k]?.getD 0 = l'[k]?.getD 0) : l.drop k = l'.drop k := by
 rw [List.drop_eq_getElem_cons hk, List.drop_eq_getElem_cons (by omega : k < l'.length), hd, ← getD_lt_length hk, ← getD_lt_length (by omega : k < l'.length), hx]
def LessRel (A B : Nat) (w : World) (i : Value) (wr : World) : Prop :=
 ∃ k : Nat, k ≤ (dig A).length ∧ i = .int .i64 ((k : Int) - 1) ∧ (dig A).drop k = (dig B).drop k ∧ Below w.heap.size w wr
theorem refLess_any (sa sb : Value) (A B : Nat) (w : World) (h : Lim w sa (dig A)) (g : Lim w sb (dig B)) :
    Calls Try.prog 40 #[sa, sb] w fun e w' => e = .returned (.bool (decide (A < B))) ∧ Below w.heap.size w w' := by
  obtain ⟨aa, ca, rfl, hlc, ⟨hcm, hcl, -⟩, -⟩ := id h
  obtain ⟨ab, cb, rfl, glc, ⟨gcm, gcl, -⟩, -⟩ := id g
  obtain ⟨r, hr⟩ : ∃ r, r = decide (A < B) := ⟨_, rfl⟩
  rw [← hr]
  have HR := Lib.hid hr
  have HA := Lib.hid h
  have HB := Lib.hid g
  clear hr h g
  by_cases hl : (dig A).length = (dig B).length
  · have hl0 : (((dig A).length : Int) != ((dig B).length : Int)) = false := by simp [hl]
    have HL := Lib.hid hl
    clear hl
    go_enter Try.func40, Try.ntmps40
    go_wp2
    go_loopw [5] (fun v5 wr => LessRel A B w v5 wr) (fun v5 _ => (intOf v5 + 1).toNat)
    case atStart => exact ⟨(dig A).length, Nat.le_refl _, rfl, by rw [List.drop_length, HL.out, List.drop_length], Below.refl _ _⟩
    case round =>
      obtain ⟨k, hk, rfl, hd, hB⟩ := hrel
      have HD := Lib.hid hd
      clear hd
      rcases Nat.eq_zero_or_pos k with h0 | h0
      · subst h0
        have hr0 : r = false := by
          rw [HR.out]
          have e := HD.out
          simp only [List.drop_zero] at e
          have e2 := congrArg val e
          rw [val_dig, val_dig] at e2
          exact decide_eq_false (by omega)
        go_wp2
        go_ret
        exact ⟨by rw [hr0]; rfl, hB⟩
      · have hra := HA.out.below hB (Nat.le_refl _)
        have hrb := HB.out.below hB (Nat.le_refl _)
        have hkb : k - 1 < (dig B).length := by have := HL.out; omega
        obtain ⟨b1, o1, rfl⟩ := lim_addr hra (by omega)
        obtain ⟨b2, o2, rfl⟩ := lim_addr hrb (by omega)
        have c1 := cell_of_lim hra (k - 1) (by omega)
        have c2 := cell_of_lim hrb (k - 1) hkb
        clear hra hrb
        have i1 : (1 : Int) ≤ (k : Int) := by omega
        have i2 : (0 : Int) ≤ (k : Int) - 1 := by omega
        have i3 : ((k : Int) - 1) < ((dig A).length : Int) := by omega
        have i5 : ((k : Int) - 1) < ((dig B).length : Int) := by omega
        have i4 : ((k : Int) - 1).toNat = k - 1 := by omega
        clear hkb
        obtain ⟨x, hx⟩ : ∃ x, x = (dig A)[k - 1]?.getD 0 := ⟨_, rfl⟩
        obtain ⟨y, hy⟩ : ∃ y, y = (dig B)[k - 1]?.getD 0 := ⟨_, rfl⟩
        rw [← hx] at c1
        rw [← hy] at c2
        have HX := Lib.hid hx
        have HY := Lib.hid hy
        clear hx hy
        have ek : k - 1 + 1 = k := by omega
        rcases Nat.lt_trichotomy x y with hxy | hxy | hxy
        · have hr0 : r = true := by
            rw [HR.out]
            exact decide_eq_true (lt_at HL.out (k := k - 1) (by omega) (by rw [ek]; exact HD.out) (by rw [← HX.out, ← HY.out]; exact hxy))
          have HR0 := Lib.hid hr0
          clear hr0 ek
          have hxy0 : ((x : Int) != (y : Int)) = true := by simp; omega
          have hxy1 : (x : Int) < (y : Int) := by omega
          go_wp2
          go_quiet (fail)
          go_wp2
          go_quiet (fail)
          go_wp2
          go_ret
          exact ⟨by rw [HR0.out]; rfl, belowN (belowN hB _) _⟩
        · have HN := Lib.hid (drop_more HL.out (k := k - 1) (by omega) (by rw [ek]; exact HD.out) (by rw [← HX.out, ← HY.out]; exact hxy))
          clear ek
          have hxy0 : ((x : Int) != (y : Int)) = false := by simp [hxy]
          clear hxy
          go_wp2
          go_quiet (fail)
          go_wp2
          case roundEnd => exact ⟨⟨k - 1, by omega, by rw [show ((k - 1 : Nat) : Int) = (k : Int) - 1 by omega], HN.out, belowN hB _⟩, by simp [intOf]; omega⟩
        · have hr0 : r = false := by
            rw [HR.out]
            have := lt_at HL.out.symm (A := B) (B := A) (k := k - 1) (by have := HL.out; omega) (by rw [ek]; exact HD.out.symm) (by rw [← HX.out, ← HY.out]; exact hxy)
            exact decide_eq_false (by omega)
          have HR0 := Lib.hid hr0
          clear hr0 ek
          have hxy0 : ((x : Int) != (y : Int)) = true := by simp; omega
          have hxy1 : ¬ (x : Int) < (y : Int) := by omega
          have hxy2 : ¬ x < y := by omega
          clear hxy
          go_wp2
          go_quiet (fail)
          go_wp2
          go_quiet (fail)
          go_wp2
          go_ret
          exact ⟨by rw [HR0.out]; rfl, belowN (belowN hB _) _⟩
  · have hl0 : (((dig A).length : Int) != ((dig B).length : Int)) = true := by simp; omega
    rcases Nat.lt_or_ge (dig A).length (dig B).length with h1 | h1
    · have hr0 : Hid (r = true) := Lib.hid (by rw [HR.out]; exact decide_eq_true (len_lt h1))
      have h2 : ((dig A).length : Int) < ((dig B).length : Int) := by omega
      clear hl h1
      go_enter Try.func40, Try.ntmps40
      go_wp2
      go_ret
      exact ⟨by rw [hr0.out]; rfl, Below.refl _ _⟩
    · have hr0 : Hid (r = false) := Lib.hid (by
        rw [HR.out]
        have := len_lt (A := B) (B := A) (by omega)
        exact decide_eq_false (by omega))
      have h2 : ¬ ((dig A).length : Int) < ((dig B).length : Int) := by omega
      clear hl h1
      go_enter Try.func40, Try.ntmps40
      go_wp2
      go_ret
      exact ⟨by rw [hr0.out]; rfl, Below.refl _ _⟩
end Go.Proofs.Ytmbcnfogjncdaaa
namespace Go.Proofs.Ytmbcnfogjncdaaa
open Go.RowKit Wh
attribute [local go_sem] Oper.semAt_some
def PlusRel (A B m : Nat) (w : World) (o n i : Value) (wr : World) : Prop :=
 ∃ (k : Nat) (l : List Nat) (c : Nat), (k ≤ m ∨ k = m + 1 ∧ c = 0) ∧ i = .int .i64 (k : Int) ∧ n = .int .i64 (c : Int) ∧ c ≤ 1 ∧ l.length = k ∧ Lm l ∧ val ((dig A).take k) + val ((dig B).take k) = val l + 65536 ^ k * c ∧ (k = 0 ∨ 65536 ^ (k - 1) ≤ A + B) ∧
  wr.ownsRow w.heap.size 22 1 o l.length (cellsOf l) ∧ Below w.heap.size w wr
theorem getD_past {l : List Nat} {k : Nat} (h : l.length ≤ k) : l[k]?.getD 0 = 0 := by rw [List.getElem?_eq_none h]; rfl
theorem refPlus_any (sa sb : Value) (A B m : Nat) (ha : (dig A).length ≤ m) (hb : (dig B).length ≤ m) (hm : m ≤ 16384) (w : World) (h : Lim w sa (dig A)) (g : Lim w sb (dig B)) :
    Calls Try.prog 39 #[sa, sb] w fun e w' => (∃ v, e = .returned v ∧ LimF w.heap.size w' v (dig (A + B))) ∧ Below w.heap.size w w' := by
  obtain ⟨i0, hi, hz0, hz1, hz2⟩ := info_parts Try.infoU
  obtain ⟨aa, ca, rfl⟩ := lim_slice h
  obtain ⟨ab, cb, rfl⟩ := lim_slice g
  have HA := Lib.hid h
  have HB := Lib.hid g
  have HM := Lib.hid (And.intro ha (And.intro hb hm))
  clear h g ha hb hm
  go_enter Try.func39, Try.ntmps39
  go_wp2
  go_loopw [5, 6, 7] (fun o n i wr => PlusRel A B m w o n i wr) (fun _ _ i _ => (16386 - intOf i).toNat)
  case atStart => exact ⟨0, [], 0, .inl (Nat.zero_le _), rfl, rfl, Nat.zero_le _, rfl, .nil, by simp, .inl rfl, World.ownsRow_nil _ _ _ _, Below.refl _ _⟩
  case round =>
    obtain ⟨k, l, c, hk, rfl, rfl, hc, hl, hlm, hv, htop, hrow, hB⟩ := hrel
    have hk2 : (k : Int) ≤ 16385 := by have := HM.out.2.2; omega
    have hc0 : 0 ≤ (c : Int) := by omega
    have hc1 : (c : Int) ≤ 1 := by omega
    have HK := Lib.hid hk
    have HV := Lib.hid hv
    have HL := Lib.hid hl
    have HT := Lib.hid htop
    clear hk hv hl htop hc
    rcases Nat.lt_or_ge k (dig A).length with ka | ka
    · rcases Nat.lt_or_ge k (dig B).length with kb | kb
      · have hra := HA.out.below hB (Nat.le_refl _)
        obtain ⟨ba, oa, rfl⟩ := lim_addr hra (by omega)
        have hca := cell_of_lim hra k ka
        have hxl := (dig_Lm A).getD k
        clear hra
        have ka1 : (k : Int) < ((dig A).length : Int) := by omega
        have hrb := HB.out.below hB (Nat.le_refl _)
        obtain ⟨bb, ob, rfl⟩ := lim_addr hrb (by omega)
        have hcb := cell_of_lim hrb k kb
        have hyl := (dig_Lm B).getD k
        clear hrb
        have kb1 : (k : Int) < ((dig B).length : Int) := by omega
        have hst := plus_step HL.out HV.out
        have HTP := Lib.hid (plus_top HV.out (.inl ⟨ka, by rw [val_dig]⟩))
        obtain ⟨x, hx⟩ : ∃ u : Nat, u = (dig A)[k]?.getD 0 := ⟨_, rfl⟩
        rw [← hx] at hca hxl hst
        clear hx
        obtain ⟨y, hy⟩ : ∃ u : Nat, u = (dig B)[k]?.getD 0 := ⟨_, rfl⟩
        rw [← hy] at hcb hyl hst
        clear hy
        obtain ⟨s, hs⟩ : ∃ s : Nat, s = c + x + y := ⟨_, rfl⟩
        rw [← hs] at hst
        have HST := Lib.hid hst
        clear hst
        have hs0 : (s : Int) ≤ 131071 := by omega
        have HS := Lib.hid hs
        clear hs
        have hxi : (x : Int) ≤ 65535 := by omega
        clear hxl
        have hyi : (y : Int) ≤ 65535 := by omega
        clear hyl
        have hln : l.length ≤ 16385 := by have := HL.out; omega
        have hlm2 : Lm (l ++ [s % 65536]) := hlm.append (.cons (by omega) .nil)
        have HE := Lib.hid (show cellsOf l ++ [Value.int .u16 (((c : Int) + (x : Int) + (y : Int)) % 65536)] = cellsOf (l ++ [s % 65536]) by rw [show ((c : Int) + (x : Int) + (y : Int)) % 65536 = ((s % 65536 : Nat) : Int) by have := HS.out; omega, cellsOf_snoc])
        have HLM := Lib.hid hlm2
        clear hlm hlm2
        go_wp2_with (at_builtin; (refine wpList_append_own _ rfl _ _ 24 rfl w.heap.size 22 i0 (.int .u16 0) 1 2 Try.underlying24 hi hz0 hz1 hz2 rfl (by decide) _ _ _ rfl (hrow.alloc _) ⟨wr.heap.size, 0, none⟩ 1 1 [.int .u16 (((c : Int) + (x : Int) + (y : Int)) % 65536)] rfl rfl (cell_one_new _ _ _) (by simp [Value.oneCell']) (by unfold maxLen; omega) (by omega) (by simp; have := hB.size; omega) ?_; intro v' w2 hrow2 hgrow _))
        rw [HE.out] at hrow2
        have hB2 := (hB.alloc hB.size (.cells #[.int .u16 (((c : Int) + (x : Int) + (y : Int)) % 65536)] 22)).grown hgrow (by simp; have := hB.size; omega) (fun k e => by have := (hrow.lt k e).1; omega)
        go_roundw
        case rel => exact ⟨k + 1, l ++ [s % 65536], s / 65536, .inl (by have := HM.out; omega), by go_num, by rw [show ((c : Int) + (x : Int) + (y : Int)) / 65536 = ((s / 65536 : Nat) : Int) by have := HS.out; omega], by have := HS.out; omega, by rw [List.length_append, HL.out]; rfl, HLM.out, HST.out, .inr (by have := HTP.out; rw [val_dig, val_dig] at this; exact this), by simpa using hrow2, hB2⟩
        case measure => simp [intOf]; omega
      · have hra := HA.out.below hB (Nat.le_refl _)
        obtain ⟨ba, oa, rfl⟩ := lim_addr hra (by omega)
        have hca := cell_of_lim hra k ka
        have hxl := (dig_Lm A).getD k
        clear hra
        have ka1 : (k : Int) < ((dig A).length : Int) := by omega
        have kb1 : ¬ (k : Int) < ((dig B).length : Int) := by omega
        have hst := plus_step HL.out HV.out
        have HTP := Lib.hid (plus_top HV.out (.inl ⟨ka, by rw [val_dig]⟩))
        rw [getD_past kb] at hst
        obtain ⟨x, hx⟩ : ∃ u : Nat, u = (dig A)[k]?.getD 0 := ⟨_, rfl⟩
        rw [← hx] at hca hxl hst
        clear hx
        obtain ⟨s, hs⟩ : ∃ s : Nat, s = c + x + 0 := ⟨_, rfl⟩
        rw [← hs] at hst
        have HST := Lib.hid hst
        clear hst
        have hs0 : (s : Int) ≤ 131071 := by omega
        have HS := Lib.hid hs
        clear hs
        have hxi : (x : Int) ≤ 65535 := by omega
        clear hxl
        have hln : l.length ≤ 16385 := by have := HL.out; omega
        have hlm2 : Lm (l ++ [s % 65536]) := hlm.append (.cons (by omega) .nil)
        have HE := Lib.hid (show cellsOf l ++ [Value.int .u16 (((c : Int) + (x : Int)) % 65536)] = cellsOf (l ++ [s % 65536]) by rw [show ((c : Int) + (x : Int)) % 65536 = ((s % 65536 : Nat) : Int) by have := HS.out; omega, cellsOf_snoc])
        have HLM := Lib.hid hlm2
        clear hlm hlm2
        go_wp2_with (at_builtin; (refine wpList_append_own _ rfl _ _ 24 rfl w.heap.size 22 i0 (.int .u16 0) 1 2 Try.underlying24 hi hz0 hz1 hz2 rfl (by decide) _ _ _ rfl (hrow.alloc _) ⟨wr.heap.size, 0, none⟩ 1 1 [.int .u16 (((c : Int) + (x : Int)) % 65536)] rfl rfl (cell_one_new _ _ _) (by simp [Value.oneCell']) (by unfold maxLen; omega) (by omega) (by simp; have := hB.size; omega) ?_; intro v' w2 hrow2 hgrow _))
        rw [HE.out] at hrow2
        have hB2 := (hB.alloc hB.size (.cells #[.int .u16 (((c : Int) + (x : Int)) % 65536)] 22)).grown hgrow (by simp; have := hB.size; omega) (fun k e => by have := (hrow.lt k e).1; omega)
        go_roundw
        case rel => exact ⟨k + 1, l ++ [s % 65536], s / 65536, .inl (by have := HM.out; omega), by go_num, by rw [show ((c : Int) + (x : Int)) / 65536 = ((s / 65536 : Nat) : Int) by have := HS.out; omega], by have := HS.out; omega, by rw [List.length_append, HL.out]; rfl, HLM.out, HST.out, .inr (by have := HTP.out; rw [val_dig, val_dig] at this; exact this), by simpa using hrow2, hB2⟩
        case measure => simp [intOf]; omega
    · rcases Nat.lt_or_ge k (dig B).length with kb | kb
      · have ka1 : ¬ (k : Int) < ((dig A).length : Int) := by omega
        have hrb := HB.out.below hB (Nat.le_refl _)
        obtain ⟨bb, ob, rfl⟩ := lim_addr hrb (by omega)
        have hcb := cell_of_lim hrb k kb
        have hyl := (dig_Lm B).getD k
        clear hrb
        have kb1 : (k : Int) < ((dig B).length : Int) := by omega
        have hst := plus_step HL.out HV.out
        have HTP := Lib.hid (plus_top HV.out (.inr (.inl ⟨kb, by rw [val_dig]⟩)))
        rw [getD_past ka] at hst
        obtain ⟨y, hy⟩ : ∃ u : Nat, u = (dig B)[k]?.getD 0 := ⟨_, rfl⟩
        rw [← hy] at hcb hyl hst
        clear hy
        obtain ⟨s, hs⟩ : ∃ s : Nat, s = c + 0 + y := ⟨_, rfl⟩
        rw [← hs] at hst
        have HST := Lib.hid hst
        clear hst
        have hs0 : (s : Int) ≤ 131071 := by omega
        have HS := Lib.hid hs
        clear hs
        have hyi : (y : Int) ≤ 65535 := by omega
        clear hyl
        have hln : l.length ≤ 16385 := by have := HL.out; omega
        have hlm2 : Lm (l ++ [s % 65536]) := hlm.append (.cons (by omega) .nil)
        have HE := Lib.hid (show cellsOf l ++ [Value.int .u16 (((c : Int) + (y : Int)) % 65536)] = cellsOf (l ++ [s % 65536]) by rw [show ((c : Int) + (y : Int)) % 65536 = ((s % 65536 : Nat) : Int) by have := HS.out; omega, cellsOf_snoc])
        have HLM := Lib.hid hlm2
        clear hlm hlm2
        go_wp2_with (at_builtin; (refine wpList_append_own _ rfl _ _ 24 rfl w.heap.size 22 i0 (.int .u16 0) 1 2 Try.underlying24 hi hz0 hz1 hz2 rfl (by decide) _ _ _ rfl (hrow.alloc _) ⟨wr.heap.size, 0, none⟩ 1 1 [.int .u16 (((c : Int) + (y : Int)) % 65536)] rfl rfl (cell_one_new _ _ _) (by simp [Value.oneCell']) (by unfold maxLen; omega) (by omega) (by simp; have := hB.size; omega) ?_; intro v' w2 hrow2 hgrow _))
        rw [HE.out] at hrow2
        have hB2 := (hB.alloc hB.size (.cells #[.int .u16 (((c : Int) + (y : Int)) % 65536)] 22)).grown hgrow (by simp; have := hB.size; omega) (fun k e => by have := (hrow.lt k e).1; omega)
        go_roundw
        case rel => exact ⟨k + 1, l ++ [s % 65536], s / 65536, .inl (by have := HM.out; omega), by go_num, by rw [show ((c : Int) + (y : Int)) / 65536 = ((s / 65536 : Nat) : Int) by have := HS.out; omega], by have := HS.out; omega, by rw [List.length_append, HL.out]; rfl, HLM.out, HST.out, .inr (by have := HTP.out; rw [val_dig, val_dig] at this; exact this), by simpa using hrow2, hB2⟩
        case measure => simp [intOf]; omega
      · rcases Nat.eq_zero_or_pos c with hc2 | hc2
        · subst hc2
          have ka1 : ¬ (k : Int) < ((dig A).length : Int) := by omega
          have kb1 : ¬ (k : Int) < ((dig B).length : Int) := by omega
          have hv2 := HV.out
          rw [List.take_of_length_le ka, List.take_of_length_le kb, val_dig, val_dig, Nat.mul_zero, Nat.add_zero] at hv2
          have hd := dig_of_val hlm hv2.symm (by rw [HL.out]; exact HT.out)
          have hln : l.length ≤ 16385 := by have := HL.out; omega
          have HLF : Hid (LimF w.heap.size wr u5 (dig (A + B))) := Lib.hid (by rw [← hd]; exact ⟨Lim.of_owns hrow (by omega), Fr.of_owns hrow⟩)
          clear hv2 hd hln hrow hlm
          go_wp2
          go_ret
          exact ⟨⟨_, rfl, HLF.out⟩, hB⟩
        · have ka1 : ¬ (k : Int) < ((dig A).length : Int) := by omega
          have kb1 : ¬ (k : Int) < ((dig B).length : Int) := by omega
          have hst := plus_step HL.out HV.out
          have HTP := Lib.hid (plus_top HV.out (.inr (.inr hc2)))
          rw [getD_past ka] at hst
          rw [getD_past kb] at hst
          obtain ⟨s, hs⟩ : ∃ s : Nat, s = c + 0 + 0 := ⟨_, rfl⟩
          rw [← hs] at hst
          have HST := Lib.hid hst
          clear hst
          have hs0 : (s : Int) ≤ 131071 := by omega
          have HS := Lib.hid hs
          clear hs
          have hln : l.length ≤ 16385 := by have := HL.out; omega
          have hlm2 : Lm (l ++ [s % 65536]) := hlm.append (.cons (by omega) .nil)
          have HE := Lib.hid (show cellsOf l ++ [Value.int .u16 ((c : Int) % 65536)] = cellsOf (l ++ [s % 65536]) by rw [show (c : Int) % 65536 = ((s % 65536 : Nat) : Int) by have := HS.out; omega, cellsOf_snoc])
          have HLM := Lib.hid hlm2
          clear hlm hlm2
          go_wp2_with (at_builtin; (refine wpList_append_own _ rfl _ _ 24 rfl w.heap.size 22 i0 (.int .u16 0) 1 2 Try.underlying24 hi hz0 hz1 hz2 rfl (by decide) _ _ _ rfl (hrow.alloc _) ⟨wr.heap.size, 0, none⟩ 1 1 [.int .u16 ((c : Int) % 65536)] rfl rfl (cell_one_new _ _ _) (by simp [Value.oneCell']) (by unfold maxLen; omega) (by omega) (by simp; have := hB.size; omega) ?_; intro v' w2 hrow2 hgrow _))
          rw [HE.out] at hrow2
          have hB2 := (hB.alloc hB.size (.cells #[.int .u16 ((c : Int) % 65536)] 22)).grown hgrow (by simp; have := hB.size; omega) (fun k e => by have := (hrow.lt k e).1; omega)
          go_roundw
          case rel => exact ⟨k + 1, l ++ [s % 65536], s / 65536, (by have h1 := HM.out; have h2 := HK.out; have h3 := HS.out; rcases h2 with h2 | h2 <;> omega), by go_num, by rw [show (c : Int) / 65536 = ((s / 65536 : Nat) : Int) by have := HS.out; omega], by have := HS.out; omega, by rw [List.length_append, HL.out]; rfl, HLM.out, HST.out, .inr (by have := HTP.out; rw [val_dig, val_dig] at this; exact this), by simpa using hrow2, hB2⟩
          case measure => simp [intOf]; omega
end Go.Proofs.Ytmbcnfogjncdaaa
