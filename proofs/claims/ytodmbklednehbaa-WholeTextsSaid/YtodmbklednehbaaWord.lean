/-
'word': the number that at most four limbs make.
-/
import Derived.Test.YtodmbklednehbaaTrim
import Derived.Test.YtodmbklednehbaaNum
namespace Go.Proofs.Ytodmbklednehbaa
open Go.RowKit Go.Shelf Wh
attribute [local go_sem] Oper.semAt_some

def acc (l : List Nat) (pre : List (Ix l)) : Nat := pre.foldl (fun n i => (n * 65536 + l[i.1]?.getD 0) % 18446744073709551616) 0

theorem fold_down (l : List Nat) (f : Nat → Nat → Nat) (n : Nat) (hn : n ≤ l.length) (c : Nat) : ((List.range n).reverse).foldl (fun a i => f a (l[i]?.getD 0)) c = (l.take n).reverse.foldl f c := by
  induction n generalizing c with
  | zero => simp
  | succ n ih =>
    rw [List.range_succ, List.reverse_append, List.take_succ_eq_append_getElem (by omega), List.reverse_append]
    simp only [List.reverse_cons, List.reverse_nil, List.nil_append, List.singleton_append, List.foldl_cons]
    rw [ih (by omega), getD_lt_length (by omega)]

theorem acc_map {l : List Nat} (ys : List (Ix l)) (c : Nat) : ys.foldl (fun n i => (n * 65536 + l[i.1]?.getD 0) % 18446744073709551616) c = (ys.map Subtype.val).foldl (fun n i => (n * 65536 + l[i]?.getD 0) % 18446744073709551616) c := by
  rw [List.foldl_map]

theorem fold_val (l : List Nat) (c : Nat) : l.reverse.foldl (fun n u => (n * 65536 + u) % 18446744073709551616) c % 18446744073709551616 = (c * 65536 ^ l.length + val l) % 18446744073709551616 := by
  induction l generalizing c with
  | nil => simp
  | cons x l ih =>
    rw [List.reverse_cons, List.foldl_append]
    simp only [List.foldl_cons, List.foldl_nil, Nat.mod_mod]
    have h := ih c
    rw [Nat.add_mod, Nat.mul_mod, h, ← Nat.mul_mod, ← Nat.add_mod]
    congr 1
    simp only [val_cons, List.length_cons, Nat.pow_succ, Nat.add_mul]
    rw [← Nat.mul_assoc]
    omega

theorem acc_all {l : List Nat} {ys : List (Ix l)} (h : Sall l ys) : acc l ys = val l % 18446744073709551616 := by
  have e : acc l ys = l.reverse.foldl (fun n u => (n * 65536 + u) % 18446744073709551616) 0 := by
    rw [acc, acc_map, h, fold_down l (fun n u => (n * 65536 + u) % 18446744073709551616) l.length (Nat.le_refl _)]
    simp
  have e2 := fold_val l 0
  rw [← e] at e2
  simp at e2
  rw [← e2]
  refine (Nat.mod_eq_of_lt ?_).symm
  rw [e]
  cases l with
  | nil => simp
  | cons x t => rw [List.reverse_cons, List.foldl_append]; simp; omega

set_option maxRecDepth 100000 in
set_option maxHeartbeats 2000000 in
theorem word_in (F : Fence) (n : Nat) (hf : F.fn 54) (hf2 : F.fn 68) (hf3 : F.fn 76) (hro : F.round = none) (hn : 3 ≤ n) (sv : Value) (l : List Nat) (hl : Lm l) (w : World) (h : Lim w sv l) :
    CallsIn F n Try.prog 54 #[sv] w fun e w' => e = .returned (.int .u64 ((val l % 18446744073709551616 : Nat) : Int)) ∧ Below w.heap.size w w' := by
  have h1 : 1 ≤ n := by omega
  have h' := h
  obtain ⟨a, cap, rfl, hlc, ⟨hcm, hcl, hcn⟩, hcs⟩ := h'
  clear hcn
  refine callsIn_of_wp_marks Try.func54 rfl hf ?_ hro
  simp only [Try.ntmps54, List.size_toArray, List.length_cons, List.length_nil, Nat.reduceAdd, Nat.reduceSub, Array.replicate_succ, Array.replicate_zero, List.push_toArray, List.append_toArray, List.nil_append, List.cons_append]
  gi_wp2_with (gi_at_call 68; refine (down_in F (n - 1) hf2 hro _ _ _ _ rfl _).mono ?_; rintro e w' ⟨rfl, rfl⟩)
  have bN := Boxed.new (w.alloc (.cells #[.int .u64 0] 59)) 24 (.slice a l.length cap)
  have bA := (Boxed.new w 59 (.int .u64 0)).alloc (.cells #[.slice a l.length cap] 24)
  rw [World.size_alloc] at bN
  have hB0 : Below w.heap.size w ((w.alloc (.cells #[.int .u64 0] 59)).alloc (.cells #[.slice a l.length cap] 24)) :=
    ((Below.refl _ w).alloc (Nat.le_refl _) _).alloc (by simp) _
  obtain ⟨W0, hW0⟩ : ∃ W0, (w.alloc (.cells #[.int .u64 0] 59)).alloc (.cells #[.slice a l.length cap] 24) = W0 := ⟨_, rfl⟩
  have hsz : W0.heap.size = w.heap.size + 2 := by rw [← hW0]; simp
  rw [hW0] at bN bA hB0 ⊢
  clear hW0
  refine wpIn_rangeFunc_ownG hro h1 (gf := 76) (lb := #[.pointer (some ⟨w.heap.size + 1, 0, none⟩)]) rfl hf3 (enters_of Try.func76 (by kernel_rfl) rfl)
    (down_stops F (n - 1) hf3 hro (by omega) (w.heap.size + 1) w.heap.size _ l W0 (by omega) (by omega) bN.cell w h (Nat.le_refl _) hB0) KpD.trans (KpD.putObj (by omega)) (Below.refl _ _) (fun _ => rfl)
    (fun pre W => (Boxed W w.heap.size 59 (.int .u64 (acc l pre : Nat))) ∧ Below w.heap.size w W)
    (fun _ _ _ => False)
    (OwnFrom.and (Own.from (fun s A B row hs hg hr => hs.kept hg (fun e => by obtain ⟨o, ho, hc⟩ := hr _ e.symm; rw [hs] at ho; cases ho; cases hc)) _) (ownFrom_below (Nat.le_refl _) (by omega)))
    (fun _ _ _ _ _ hs _ _ => hs)
    ⟨bA, hB0⟩
    (fun x => { tmps := #[.slice a l.length cap, undef, .int .u64 0, .pointer (some ⟨w.heap.size, 0, none⟩), undef, .int .u16 ((l[x.1]?.getD 0 : Nat) : Int), .slice a l.length cap, .func (.func 76) #[] #[.pointer (some ⟨w.heap.size + 1, 0, none⟩)], .int .i64 ((x.1 : Nat) : Int), .int .u16 ((l[x.1]?.getD 0 : Nat) : Int), undef, undef, undef, undef, undef, undef], defers := [] }) ?assign ?body ?done ?stop
  case assign =>
    intro y x W K hK
    dsimp only [encs]
    gi_wp2
    exact hK
  case body =>
    rintro y pre x W ⟨hbA, hB⟩ _
    have cA := hbA.cell
    have fA := hbA.frozen
    obtain ⟨u, hu⟩ : ∃ u : Nat, u = l[x.1]?.getD 0 := ⟨_, rfl⟩
    rw [← hu]
    have hu2 : u < 65536 := by rw [hu]; exact hl.getD _
    have H := Lib.hid hu
    clear hu
    obtain ⟨q, hq⟩ : ∃ q : Nat, q = acc l pre := ⟨_, rfl⟩
    rw [← hq] at cA
    have Hq := Lib.hid hq
    clear hq
    gi_wp2
    refine ⟨(KeepsOthers.setCell _ _ _).from _, KpD.setCell _ (Nat.le_refl _) (by simp), ?_, hB.setCell (p := ⟨w.heap.size, 0, none⟩) (Nat.le_refl _) _⟩
    have e2 : acc l (pre ++ [x]) = (q * 65536 + u) % 18446744073709551616 := by
      rw [Hq.out, H.out]; simp [acc]
    rw [e2, shl_or q u hu2]
    exact hbA.set _
  case done =>
    rintro D ys W hD hS ⟨hbA, hB⟩ hK
    have cA := hbA.cell
    gi_wp2
    refine ⟨by simp, .inl ⟨_, _, rfl, run_takeDeferred hK, ?_⟩⟩
    refine ⟨_, results_tmp rfl _ _ _, ?_, hB.trans (belowK_b (w := w) (Nat.le_refl _) W D _ _ (by omega) hK rfl rfl)⟩
    rw [acc_all hS]
    rfl
  case stop =>
    rintro D c pre W _ _ h _
    exact h.elim

theorem word_any (sv : Value) (l : List Nat) (hl : Lm l) (w : World) (h : Lim w sv l) :
    Calls Try.prog 54 #[sv] w fun e w' => e = .returned (.int .u64 ((val l % 18446744073709551616 : Nat) : Int)) ∧ Below w.heap.size w w' :=
  callsIn_wide.1 (word_in Fence.wide 3 trivial trivial trivial rfl (Nat.le_refl _) sv l hl w h)

end Go.Proofs.Ytodmbklednehbaa
