/-
'large': n limbs that are 65535; the int 2^63 does not fit.
-/
import Derived.Test.YtodmbklednehbaaSz
import Derived.Test.YtodmbklednehbaaToInt
import Derived.Outline
import Derived.OwnWalk
import Derived.Laws.OwnMore
namespace Go.Proofs.Ytodmbklednehbaa
open Go.RowKit Wh
attribute [local go_sem] Oper.semAt_some

theorem zeros_made (n : Nat) : (madeCells (Value.int .u16 0).cells (n * 1)).toList = cellsOf (List.replicate n 0) := by
  have e : (Value.int .u16 0).cells = #[.int .u16 0] := rfl
  rw [e, Nat.mul_one]
  unfold madeCells cellsOf
  apply List.ext_getElem
  · simp
  · intro i h1 h2
    simp [Nat.mod_one]

theorem Bx.kept {W W' : World} {row : Option Nat} {B : Nat} {x y : Value} (h : Bx W B x y) (hg : W.grownBy W' row) (hne : some B ≠ row) : Bx W' B x y := (hg.block B h.lt hne).trans h

theorem val_ones (n : Nat) : val (List.replicate n 65535) = 65536 ^ n - 1 := by
  induction n with
  | zero => rfl
  | succ n ih => rw [List.replicate_succ, val_cons, ih, Nat.pow_succ]; have := Nat.pow_pos (n := n) (show 0 < 65536 by omega); omega
theorem dig_ones (n : Nat) : dig (65536 ^ n - 1) = List.replicate n 65535 := by
  rw [← val_ones]
  refine dig_val (fun x hx => ?_) (fun hne => ?_)
  · rw [List.eq_of_mem_replicate hx]; decide
  · rw [List.getLast_replicate]; decide

/-- After k rounds. -/
def LgRel (G n base : Nat) (W0 : World) (v : Value) (wr : World) : Prop :=
  ∃ k : Nat, k ≤ n ∧ v = .int .i64 (k : Int) ∧ wr.ownsRow base 22 1 (.slice (some ⟨G, 0, none⟩) n n) n (cellsOf (List.replicate k 65535 ++ List.replicate (n - k) 0)) ∧ W0.grownBy wr (some G)

theorem lg_step {G n base k : Nat} {W0 wr : World} (hk : k < n) (hrow : wr.ownsRow base 22 1 (.slice (some ⟨G, 0, none⟩) n n) n (cellsOf (List.replicate k 65535 ++ List.replicate (n - k) 0))) (hg : W0.grownBy wr (some G)) :
    LgRel G n base W0 (.int .i64 ((k : Int) + 1)) (wr.setCell ⟨G, k, none⟩ (.int .u16 65535)) := by
  obtain ⟨r1, r2⟩ := hrow.stored k (.int .u16 65535)
  refine ⟨k + 1, by omega, rfl, ?_, hg.trans r2⟩
  have e : (cellsOf (List.replicate k 65535 ++ List.replicate (n - k) 0)).set k (.int .u16 65535) = cellsOf (List.replicate (k + 1) 65535 ++ List.replicate (n - (k + 1)) 0) := by
    obtain ⟨m, hm⟩ : ∃ m, n - k = m + 1 := ⟨n - k - 1, by omega⟩
    rw [show n - (k + 1) = m by omega, hm]
    unfold cellsOf
    rw [show Value.int .u16 65535 = (fun (x : Nat) => Value.int .u16 (x : Int)) 65535 from rfl, ← List.map_set]
    congr 1
    rw [List.set_append_right _ _ (by simp), List.length_replicate, Nat.sub_self, List.replicate_succ, List.set_cons_zero, List.replicate_succ' (n := k), List.append_assoc]
    rfl
  rw [e] at r1
  exact r1

set_option maxRecDepth 100000 in
set_option maxHeartbeats 2000000 in
theorem large_any (n : Nat) (h0 : 0 < n) (hn : n ≤ 4096) (w : World) :
    Calls Try.prog 24 #[.int .i64 (n : Int)] w fun e w' => (∃ a c, e = .returned (.agg #[.bool false, .slice a n c]) ∧ LimF w.heap.size w' (.slice a n c) (dig (65536 ^ n - 1))) ∧ Below w.heap.size w w' := by
  obtain ⟨i0, hi, hz0, hz1, hz2⟩ := info_parts Try.infoU
  have hz := (Below.refl w.heap.size w).alloc (Nat.le_refl _) (.cells #[.bool false, .slice none 0 0] 26)
  have x2 := Bx.new w (.bool false) (.slice none 0 0)
  go_enter Try.func24, Try.ntmps24
  go_wp2_with (at_make; refine wpList_make_full _ rfl _ _ 24 rfl (w.heap.size + 1) 22 i0 (.int .u16 0) 1 Try.underlying24 hi hz0 hz1 _ _ _ _ n rfl rfl rfl rfl (by rw [hz2]; omega) (by unfold maxLen; omega) (by simp) ?_; intro w1 hown hgrow)
  rw [zeros_made] at hown
  rw [World.size_alloc] at hown
  have x3 := x2.kept hgrow (by simp)
  have hB1 := hz.grown hgrow (by simp) (fun k e => by cases e)
  clear hgrow hz x2
  have HN := Lib.hid hn
  have H0 := Lib.hid h0
  have hn' : (n : Int) ≤ 4096 := by omega
  go_loopw [4] (fun i wr => LgRel (w.heap.size + 1) n (w.heap.size + 1) w1 i wr) (fun i _ => n - (intOf i).toNat)
  case atStart => exact ⟨0, Nat.zero_le _, rfl, by simpa using hown, ⟨rfl, rfl, rfl, Nat.le_refl _, fun _ _ _ => rfl⟩⟩
  case round =>
    obtain ⟨k, hk, rfl, hrow, hg⟩ := hrel
    by_cases hkn : k < n
    · have hfro := hrow.frozenAt k
      have hcell := hrow.cellAt k (by omega)
      rw [cellsOf_get _ _ (by simp; omega)] at hcell
      have HR := Lib.hid hrow
      clear hrow
      go_wp2
      refine ⟨?_, by simp [intOf]; omega⟩
      exact lg_step hkn HR.out hg
    · obtain rfl : k = n := by omega
      rw [Nat.sub_self, List.replicate_zero, List.append_nil] at hrow
      have x4 := x3.kept hg (by simp)
      have hB2 := hB1.grown hg (Nat.le_of_lt x3.lt) (fun j e => by cases e; omega)
      obtain ⟨p4, p4'⟩ := x4.cells
      obtain ⟨f4, f4'⟩ := x4.free
      go_wp2
      obtain ⟨k4, k4'⟩ := (x4.put (.bool false) (.slice (some ⟨w.heap.size + 1, 0, none⟩) k k)).cells
      have hl0 : LimF (w.heap.size + 1) wr (.slice (some ⟨w.heap.size + 1, 0, none⟩) k k) (List.replicate k 65535) := ⟨Lim.of_owns hrow (by simp; omega), Fr.of_owns hrow⟩
      have hl := ((hl0.put (B' := w.heap.size) (Nat.lt_succ_self _) (.bool false) (.slice (some ⟨w.heap.size + 1, 0, none⟩) k k)).mono (Nat.le_succ _))
      rw [← dig_ones] at hl
      exact bodyPost_ret (v := .agg #[.bool false, .slice (some ⟨w.heap.size + 1, 0, none⟩) k k]) (by simp [results, Try.results24, go_sem, k4, k4']) rfl ⟨⟨_, _, rfl, hl⟩, Below.put hB2 (Nat.le_refl _) _ _⟩

set_option maxRecDepth 100000 in
set_option maxHeartbeats 1000000 in
theorem Int_top (v : Value) (w : World) (h' : Num w v 9223372036854775808) :
    Calls Try.prog 26 #[v] w fun e w' => e = .returned (.tuple #[.int .i64 0, .int .i64 3]) ∧ Below w.heap.size w w' := by
  obtain ⟨z, hz0⟩ : ∃ z : Int, z = 9223372036854775808 := ⟨_, rfl⟩
  rw [← hz0] at h'
  obtain ⟨s, rfl, h⟩ := h'
  have hl4 : (dig z.natAbs).length ≤ 4 := (length_dig_le _ 4).2 (by show z.natAbs < 18446744073709551616; omega)
  have hw1 := fun B W (h0 : W.cell? ⟨B, 0, none⟩ = some (.bool (decide (z < 0)))) (h1 : W.cell? ⟨B, 1, none⟩ = some s) (hW : Below w.heap.size w W) => allValid_one B _ s _ W h0 h1 (h.below hW (Nat.le_refl _))
  rw [vld_num z (by omega)] at hw1
  rw [decide_eq_false (show ¬ z < 0 by omega)] at hw1 ⊢
  have HW1 := Lib.hid hw1
  have hw2 := fun W (hW : Below w.heap.size w W) => word_any s (dig z.natAbs) (dig_Lm _) W (h.below hW (Nat.le_refl _))
  rw [val_dig, Nat.mod_eq_of_lt (show z.natAbs < 18446744073709551616 by omega)] at hw2
  rw [show ((z.natAbs : Nat) : Int) = 9223372036854775808 by omega] at hw2
  have HW2 := Lib.hid hw2
  obtain ⟨aa, ca, rfl⟩ := lim_slice h
  clear hw1 hw2 h
  obtain ⟨ja, hja⟩ : ∃ n, n = (dig z.natAbs).length := ⟨_, rfl⟩
  rw [← hja] at HW1 HW2 hl4 ⊢
  clear hja hz0
  have hl4' : ¬ (4 < (ja : Int)) := by omega
  clear hl4
  have hz := ((Below.refl w.heap.size w).alloc (Nat.le_refl _) (.cells #[.bool false, .slice aa ja ca] 26)).alloc (by simp) (.cells #[.bool false, .slice aa ja ca] 26)
  have x2 := (Bx.new w (.bool false) (.slice aa ja ca)).alloc (.cells #[.bool false, .slice aa ja ca] 26)
  have hr := (Bx.new (w.alloc (.cells #[.bool false, .slice aa ja ca] 26)) (.bool false) (.slice aa ja ca)).cells
  simp only [World.size_alloc] at hr
  have HR := Lib.hid hr
  clear hr
  go_enter Try.func26, Try.ntmps26
  go_wp2_with (first
    | (go_at_call 48; refine (HW1.out _ _ HR.out.1 HR.out.2 hz).mono ?_; rintro e w2 ⟨rfl, hb2⟩; have hB2 := hz.trans (hb2.mono hz.size); have z2 := x2.on hb2; obtain ⟨p2, p2'⟩ := z2.cells)
    | (go_at_call 54; refine (HW2.out _ hB2).mono ?_; rintro e w3 ⟨rfl, hb3⟩; have hB3 := hB2.trans (hb3.mono hB2.size); have z3 := z2.on hb3; obtain ⟨q2, q2'⟩ := z3.cells))
  go_ret2
  exact ⟨rfl, hB3⟩

end Go.Proofs.Ytodmbklednehbaa
