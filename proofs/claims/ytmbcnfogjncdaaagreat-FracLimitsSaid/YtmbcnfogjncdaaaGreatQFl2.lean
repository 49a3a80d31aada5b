/- A part of the proofs about fractions. -/
import Derived.Laws.EntriesVeiled
import Derived.Maps.AppendAt
import Derived.Test.YtmbcnfogjncdaaaGreatQFl1
set_option maxRecDepth 100000
set_option maxHeartbeats 4000000
namespace Go.Proofs.YtmbcnfogjncdaaaGreat
open Go.RowKit Go.Shelf Wh
attribute [local go_sem] Oper.semAt_some
def acc (l : List Nat) (pre : List (Ix l)) : Nat := pre.foldl (fun n i => (n * 65536 + l[i.1]?.getD 0) % 18446744073709551616) 0
theorem fold_down (l : List Nat) (f : Nat → Nat → Nat) (n : Nat) (hn : n ≤ l.length) (c : Nat) : ((List.range n).reverse).foldl (fun a i => f a (l[i]?.getD 0)) c = (l.take n).reverse.foldl f c := by
 induction n generalizing c with
 | zero => simp
 | succ n ih =>
  rw [List.range_succ, List.reverse_append, List.take_succ_eq_append_getElem (by omega), List.reverse_append]
  simp only [List.reverse_cons, List.reverse_nil, List.nil_append, List.singleton_append, List.foldl_cons]
  rw [ih (by omega), getD_lt_length (by omega)]
theorem acc_map {l : List Nat} (ys : List (Ix l)) (c : Nat) : ys.foldl (fun n i => (n * 65536 + l[i.1]?.getD 0) % 18446744073709551616) c = (ys.map Subtype.val).foldl (fun n i => (n * 65536 + l[i]?.getD 0) % 18446744073709551616) c := by
 rw [List.foldl_map]
theorem fold_val (l : List Nat) (c : Nat) : l.reverse.foldl (fun n u => (n * 65536 + u) % 18446744073709551616) c % 18446744073709551616 = (c * 65536 ^ l.length + val l) % 18446744073709551616 := by
 induction l generalizing c with
 | nil => simp
 | cons x l ih =>
  rw [List.reverse_cons, List.foldl_append]
  simp only [List.foldl_cons, List.foldl_nil, Nat.mod_mod]
  have h := ih c
  rw [Nat.add_mod, Nat.mul_mod, h, ← Nat.mul_mod, ← Nat.add_mod]
  congr 1
  simp only [val_cons, List.length_cons, Nat.pow_succ, Nat.add_mul]
  rw [← Nat.mul_assoc]
  omega
theorem acc_all {l : List Nat} {ys : List (Ix l)} (h : Sall l ys) : acc l ys = val l % 18446744073709551616 := by
 have e : acc l ys = l.reverse.foldl (fun n u => (n * 65536 + u) % 18446744073709551616) 0 := by
  rw [acc, acc_map, h, fold_down l (fun n u => (n * 65536 + u) % 18446744073709551616) l.length (Nat.le_refl _)]
  simp
 have e2 := fold_val l 0
 rw [← e] at e2
 simp at e2
 rw [← e2]
 refine (Nat.mod_eq_of_lt ?_).symm
 rw [e]
 cases l with
 | nil => simp
 | cons x t => rw [List.reverse_cons, List.foldl_append]; simp; omega
theorem word_in (F : Fence) (n : Nat) (hf : F.fn 55) (hf2 : F.fn 135) (hf3 : F.fn 169) (hro : F.round = none) (hn : 3 ≤ n) (sv : Value) (l : List Nat) (hl : Lm l) (w : World) (h : Lim w sv l) :
    CallsIn F n Tryz.prog 55 #[sv] w fun e w' => e = .returned (.int .u64 ((val l % 18446744073709551616 : Nat) : Int)) ∧ Below w.heap.size w w' := by
  have h1 : 1 ≤ n := by omega
  have h' := h
  obtain ⟨a, cap, rfl, hlc, ⟨hcm, hcl, hcn⟩, hcs⟩ := h'
  clear hcn
  refine callsIn_of_wp_marks Tryz.func55 rfl hf ?_ hro
  simp only [Tryz.ntmps55, List.size_toArray, List.length_cons, List.length_nil, Nat.reduceAdd, Nat.reduceSub, Array.replicate_succ, Array.replicate_zero, List.push_toArray, List.append_toArray, List.nil_append, List.cons_append]
  gi_wp2_with (gi_at_call 135; refine (down_in F (n - 1) hf2 hro _ _ _ _ rfl _).mono ?_; rintro e w' ⟨rfl, rfl⟩)
  have bN := Boxed.new (w.alloc (.cells #[.int .u64 0] 69)) 22 (.slice a l.length cap)
  have bA := (Boxed.new w 69 (.int .u64 0)).alloc (.cells #[.slice a l.length cap] 22)
  rw [World.size_alloc] at bN
  have hB0 : Below w.heap.size w ((w.alloc (.cells #[.int .u64 0] 69)).alloc (.cells #[.slice a l.length cap] 22)) :=
    ((Below.refl _ w).alloc (Nat.le_refl _) _).alloc (by simp) _
  obtain ⟨W0, hW0⟩ : ∃ W0, (w.alloc (.cells #[.int .u64 0] 69)).alloc (.cells #[.slice a l.length cap] 22) = W0 := ⟨_, rfl⟩
  have hsz : W0.heap.size = w.heap.size + 2 := by rw [← hW0]; simp
  rw [hW0] at bN bA hB0 ⊢
  clear hW0
  refine wpIn_rangeFunc_ownG hro h1 (gf := 169) (lb := #[.pointer (some ⟨w.heap.size + 1, 0, none⟩)]) rfl hf3 (enters_of Tryz.func169 (by kernel_rfl) rfl)
    (down_stops F (n - 1) hf3 hro (by omega) (w.heap.size + 1) w.heap.size _ l W0 (by omega) (by omega) bN.cell w h (Nat.le_refl _) hB0) KpD.trans (KpD.putObj (by omega)) (Below.refl _ _) (fun _ => rfl)
    (fun pre W => (Boxed W w.heap.size 69 (.int .u64 (acc l pre : Nat))) ∧ Below w.heap.size w W)
    (fun _ _ _ => False)
    (OwnFrom.and (Own.from (fun s A B row hs hg hr => hs.kept hg (fun e => by obtain ⟨o, ho, hc⟩ := hr _ e.symm; rw [hs] at ho; cases ho; cases hc)) _) (ownFrom_below (Nat.le_refl _) (by omega)))
    (fun _ _ _ _ _ hs _ _ => hs)
    ⟨bA, hB0⟩
    (fun x => { tmps := #[.slice a l.length cap, undef, .int .u64 0, .pointer (some ⟨w.heap.size, 0, none⟩), undef, .int .u16 ((l[x.1]?.getD 0 : Nat) : Int), .slice a l.length cap, .func (.func 169) #[] #[.pointer (some ⟨w.heap.size + 1, 0, none⟩)], .int .i64 ((x.1 : Nat) : Int), .int .u16 ((l[x.1]?.getD 0 : Nat) : Int), undef, undef, undef, undef, undef, undef], defers := [] }) ?assign ?body ?done ?stop
  case assign =>
    intro y x W K hK
    dsimp only [encs]
    gi_wp2
    exact hK
  case body =>
    rintro y pre x W ⟨hbA, hB⟩ _
    have cA := hbA.cell
    have fA := hbA.frozen
    obtain ⟨u, hu⟩ : ∃ u : Nat, u = l[x.1]?.getD 0 := ⟨_, rfl⟩
    rw [← hu]
    have hu2 : u < 65536 := by rw [hu]; exact hl.getD _
    have H := Lib.hid hu
    clear hu
    obtain ⟨q, hq⟩ : ∃ q : Nat, q = acc l pre := ⟨_, rfl⟩
    rw [← hq] at cA
    have Hq := Lib.hid hq
    clear hq
    gi_wp2
    refine ⟨(KeepsOthers.setCell _ _ _).from _, KpD.setCell _ (Nat.le_refl _) (by simp), ?_, hB.setCell (p := ⟨w.heap.size, 0, none⟩) (Nat.le_refl _) _⟩
    have e2 : acc l (pre ++ [x]) = (q * 65536 + u) % 18446744073709551616 := by
      rw [Hq.out, H.out]; simp [acc]
    rw [e2, shl_or q u hu2]
    exact hbA.set _
  case done =>
    rintro D ys W hD hS ⟨hbA, hB⟩ hK
    have cA := hbA.cell
    gi_wp2
    refine ⟨by simp, .inl ⟨_, _, rfl, run_takeDeferred hK, ?_⟩⟩
    refine ⟨_, results_tmp rfl _ _ _, ?_, hB.trans (belowK_b (w := w) (Nat.le_refl _) W D _ _ (by omega) hK rfl rfl)⟩
    rw [acc_all hS]
    rfl
  case stop =>
    rintro D c pre W _ _ h _
    exact h.elim
theorem word_any (sv : Value) (l : List Nat) (hl : Lm l) (w : World) (h : Lim w sv l) :
  Calls Tryz.prog 55 #[sv] w fun e w' => e = .returned (.int .u64 ((val l % 18446744073709551616 : Nat) : Int)) ∧ Below w.heap.size w w' :=
 callsIn_wide.1 (word_in Fence.wide 3 trivial trivial trivial rfl (Nat.le_refl _) sv l hl w h)
end Go.Proofs.YtmbcnfogjncdaaaGreat
namespace Go.Proofs.YtmbcnfogjncdaaaGreat
open Go.RowKit Go.Shelf Wh
attribute [local go_sem] Oper.semAt_some
def cmpN (m n : Nat) : Int := if m < n then -1 else if n < m then 1 else 0
def cmpL (a b : List Nat) : Int := if a.length < b.length then -1 else if b.length < a.length then 1 else cmpN (val a) (val b)
theorem cmp_dig (m n : Nat) : cmpL (dig m) (dig n) = cmpN m n := by
  unfold cmpL
  by_cases h : (dig m).length < (dig n).length
  · have : m < n := by
      by_cases hc : m < n
      · exact hc
      · have := length_dig_mono (show n ≤ m by omega); omega
    simp [h, cmpN, this]
  · by_cases h2 : (dig n).length < (dig m).length
    · have : n < m := by
        by_cases hc : n < m
        · exact hc
        · have := length_dig_mono (show m ≤ n by omega); omega
      have h3 : ¬ m < n := by omega
      simp [h, h2, cmpN, this, h3]
    · simp [h, h2, val_dig]
theorem val_take_eq {a b : List Nat} (h : ∀ j, j < a.length → a[j]?.getD 0 = b[j]?.getD 0) (hl : a.length = b.length) : a = b := by
 apply List.ext_getElem hl
 intro i h1 h2
 have := h i h1
 rwa [getD_lt_length h1, getD_lt_length h2] at this
theorem lt_of_top {a b : List Nat} (ha : Lm a) (hl : a.length = b.length) {m : Nat} (hm : m < a.length) (h0 : a[m]?.getD 0 < b[m]?.getD 0) (h : ∀ j, m < j → j < a.length → a[j]?.getD 0 = b[j]?.getD 0) : val a < val b := by
 have e1 := val_take_drop a (m + 1)
 have e2 := val_take_drop b (m + 1)
 have ed : a.drop (m + 1) = b.drop (m + 1) := val_take_eq (fun j hj => by
  simp at hj
  rw [List.getElem?_drop, List.getElem?_drop]
  exact h (m + 1 + j) (by omega) (by omega)) (by simp [hl])
 rw [Nat.min_eq_left (by omega)] at e1 e2
 rw [e1, e2, ed, val_take_succ hm, val_take_succ (by omega)]
 have h1 := val_lt (ha.take m)
 rw [List.length_take, Nat.min_eq_left (by omega)] at h1
 have h2 : 65536 ^ m * (a[m]?.getD 0) + 65536 ^ m ≤ 65536 ^ m * (b[m]?.getD 0) := by
  rw [← Nat.mul_succ]; exact Nat.mul_le_mul_left _ h0
 omega
theorem compare_in (F : Fence) (n : Nat) (hf : F.fn 142) (hf2 : F.fn 135) (hf3 : F.fn 169) (hro : F.round = none) (hn : 3 ≤ n) (sa sb : Value) (la lb : List Nat) (hla : Lm la) (hlb : Lm lb) (w : World) (h : Lim w sa la) (k : Lim w sb lb) :
    CallsIn F n Tryz.prog 142 #[sa, sb] w fun e w' => e = .returned (.int .i64 (cmpL la lb)) ∧ Below w.heap.size w w' := by
  have h1 : 1 ≤ n := by omega
  have h' := h
  have k' := k
  obtain ⟨a, cap, rfl, hlc, ⟨hcm, hcl, hcn⟩, hcs⟩ := h'
  clear hcn
  obtain ⟨b, capb, rfl, klc, ⟨kcm, kcl, kcn⟩, kcs⟩ := k'
  clear kcn
  by_cases hlen : la.length = lb.length
  case neg =>
    clear hcs kcs
    by_cases hlt : la.length < lb.length
    · have e0 : cmpL la lb = -1 := by simp [cmpL, hlt]
      rw [e0]
      refine callsIn_of_wp Tryz.func142 rfl hf ?_ hro
      simp only [Tryz.ntmps142, List.size_toArray, List.length_cons, List.length_nil, Nat.reduceAdd, Nat.reduceSub, Array.replicate_succ, Array.replicate_zero, List.push_toArray, List.append_toArray, List.nil_append, List.cons_append]
      clear e0
      gi_wp2
      exact bodyPost_ret (v := .int .i64 (-1)) (by simp [results, Tryz.results142, go_sem]) rfl ⟨rfl, ((Below.refl _ w).alloc (Nat.le_refl _) _).alloc (by simp) _⟩
    · have hlt2 : lb.length < la.length := by omega
      have e0 : cmpL la lb = 1 := by simp [cmpL, hlt, hlt2]
      rw [e0]
      refine callsIn_of_wp Tryz.func142 rfl hf ?_ hro
      simp only [Tryz.ntmps142, List.size_toArray, List.length_cons, List.length_nil, Nat.reduceAdd, Nat.reduceSub, Array.replicate_succ, Array.replicate_zero, List.push_toArray, List.append_toArray, List.nil_append, List.cons_append]
      clear e0
      gi_wp2
      exact bodyPost_ret (v := .int .i64 1) (by simp [results, Tryz.results142, go_sem]) rfl ⟨rfl, ((Below.refl _ w).alloc (Nat.le_refl _) _).alloc (by simp) _⟩
  have e0 : cmpL la lb = cmpN (val la) (val lb) := by simp [cmpL, hlen]
  rw [e0]
  clear e0
  have Hlen := Lib.hid hlen
  have hn1 : ¬ la.length < lb.length := by omega
  have hn2 : ¬ lb.length < la.length := by omega
  clear hlen
  refine callsIn_of_wp_marks Tryz.func142 rfl hf ?_ hro
  simp only [Tryz.ntmps142, List.size_toArray, List.length_cons, List.length_nil, Nat.reduceAdd, Nat.reduceSub, Array.replicate_succ, Array.replicate_zero, List.push_toArray, List.append_toArray, List.nil_append, List.cons_append]
  gi_wp2_with (gi_at_call 135; refine (down_in F (n - 1) hf2 hro _ _ _ _ rfl _).mono ?_; rintro e w' ⟨rfl, rfl⟩)
  have bB := Boxed.new w 22 (.slice b lb.length capb)
  have bR := Boxed.new (w.alloc (.cells #[.slice b lb.length capb] 22)) 3 (.int .i64 0)
  have bN := Boxed.new ((w.alloc (.cells #[.slice b lb.length capb] 22)).alloc (.cells #[.int .i64 0] 3)) 22 (.slice a la.length cap)
  rw [World.size_alloc] at bR
  rw [World.size_alloc, World.size_alloc] at bN
  have hB0 : Below w.heap.size w (((w.alloc (.cells #[.slice b lb.length capb] 22)).alloc (.cells #[.int .i64 0] 3)).alloc (.cells #[.slice a la.length cap] 22)) :=
    (((Below.refl _ w).alloc (Nat.le_refl _) _).alloc (by simp) _).alloc (by simp; omega) _
  have bB' := (bB.alloc (.cells #[.int .i64 0] 3)).alloc (.cells #[.slice a la.length cap] 22)
  have bR' := bR.alloc (.cells #[.slice a la.length cap] 22)
  obtain ⟨W0, hW0⟩ : ∃ W0, (((w.alloc (.cells #[.slice b lb.length capb] 22)).alloc (.cells #[.int .i64 0] 3)).alloc (.cells #[.slice a la.length cap] 22)) = W0 := ⟨_, rfl⟩
  have hsz : W0.heap.size = w.heap.size + 3 := by rw [← hW0]; simp
  rw [hW0] at bB' bR' bN hB0 ⊢
  clear hW0 bB bR
  refine wpIn_rangeFunc_ownG hro h1 (gf := 169) (lb := #[.pointer (some ⟨w.heap.size + 1 + 1, 0, none⟩)]) rfl hf3 (enters_of Tryz.func169 (by kernel_rfl) rfl)
    (down_stops F (n - 1) hf3 hro (by omega) (w.heap.size + 1 + 1) w.heap.size _ la W0 (by omega) (by omega) bN.cell w h (Nat.le_refl _) hB0) KpD.trans (KpD.putObj (by omega)) (Below.refl _ _) (fun _ => rfl)
    (fun pre W => ((∀ i ∈ pre, la[i.1]?.getD 0 = lb[i.1]?.getD 0) ∧ Boxed W w.heap.size 22 (.slice b lb.length capb) ∧ Boxed W (w.heap.size + 1) 3 (.int .i64 0)) ∧ Below w.heap.size w W)
    (fun c pre W => (c = .ret ∧ ∃ ini last r, pre = ini ++ [last] ∧ (∀ i ∈ ini, la[i.1]?.getD 0 = lb[i.1]?.getD 0) ∧ ((la[last.1]?.getD 0 < lb[last.1]?.getD 0 ∧ r = -1) ∨ (lb[last.1]?.getD 0 < la[last.1]?.getD 0 ∧ r = 1)) ∧ Boxed W (w.heap.size + 1) 3 (.int .i64 r)) ∧ Below w.heap.size w W)
    (OwnFrom.and (Own.from (fun s A B row hs hg hr => ⟨hs.1, hs.2.1.kept hg (fun e => by obtain ⟨o, ho, hc⟩ := hr _ e.symm; rw [hs.2.1] at ho; cases ho; cases hc), hs.2.2.kept hg (fun e => by obtain ⟨o, ho, hc⟩ := hr _ e.symm; rw [hs.2.2] at ho; cases ho; cases hc)⟩) _) (ownFrom_below (Nat.le_refl _) (by omega)))
    (fun c => OwnFrom.and (Own.from (fun s A B row hs hg hr => by obtain ⟨hc, ini, last, r, e1, e2, e3, e4⟩ := hs; exact ⟨hc, ini, last, r, e1, e2, e3, e4.kept hg (fun e => by obtain ⟨o, ho, hc⟩ := hr _ e.symm; rw [e4] at ho; cases ho; cases hc)⟩) _) (ownFrom_below (Nat.le_refl _) (by omega)))
    ⟨⟨by simp, bB', bR'⟩, hB0⟩
    (fun x => { tmps := #[.slice a la.length cap, .slice b lb.length capb, undef, .pointer (some ⟨w.heap.size, 0, none⟩), .pointer (some ⟨w.heap.size + 1, 0, none⟩), .int .i64 ((x.1 : Nat) : Int), .int .u16 ((la[x.1]?.getD 0 : Nat) : Int), .bool false, .slice a la.length cap, .int .i64 la.length, .slice b lb.length capb, .int .i64 lb.length, .bool false, .bool false, .slice a la.length cap, .int .i64 la.length, .slice b lb.length capb, .int .i64 lb.length, .bool false, .slice a la.length cap, .func (.func 169) #[] #[.pointer (some ⟨w.heap.size + 1 + 1, 0, none⟩)], .int .i64 ((x.1 : Nat) : Int), .int .u16 ((la[x.1]?.getD 0 : Nat) : Int), undef, undef, undef, undef, undef, undef, undef, undef, undef, undef, undef, undef, undef, undef], defers := [] }) ?assign ?body ?done ?stop
  case assign =>
    intro y x W K hK
    dsimp only [encs]
    gi_wp2
    exact hK
  case body =>
    rintro y pre x W ⟨⟨hz, hbB, hbR⟩, hB⟩ _
    have cB := hbB.cell
    have cR := hbR.cell
    have fR := hbR.frozen
    have hx := x.2
    have hx2 : x.1 < lb.length := by rw [← Hlen.out]; exact hx
    obtain ⟨bb, bo, rfl, hbb, hcb⟩ := k.block (by intro e; rw [e] at hx2; simp at hx2)
    have hcb1 := (hB.cell (p := ⟨bb, bo + x.1, none⟩) hbb).trans (hcb x.1 hx2)
    clear hcb kcs hcs
    obtain ⟨u, hu⟩ : ∃ u : Nat, u = la[x.1]?.getD 0 := ⟨_, rfl⟩
    rw [← hu]
    have H := Lib.hid hu
    clear hu
    obtain ⟨v, hv⟩ : ∃ v : Nat, v = lb[x.1]?.getD 0 := ⟨_, rfl⟩
    rw [← hv] at hcb1
    have Hv := Lib.hid hv
    clear hv
    obtain ⟨m, hm⟩ : ∃ m : Nat, m = x.1 := ⟨_, rfl⟩
    have Hm := Lib.hid hm
    rw [← hm] at hx hx2 hcb1 ⊢
    clear hm
    by_cases hlt : u < v
    · gi_wp2
      exact ⟨(KeepsOthers.setCell _ _ _).from _, ⟨rfl, pre, x, -1, rfl, hz, .inl ⟨by rw [← H.out, ← Hv.out]; exact hlt, rfl⟩, hbR.set _⟩, hB.setCell (p := ⟨w.heap.size + 1, 0, none⟩) (by simp) _⟩
    · by_cases hgt : v < u
      · gi_wp2
        exact ⟨(KeepsOthers.setCell _ _ _).from _, ⟨rfl, pre, x, 1, rfl, hz, .inr ⟨by rw [← H.out, ← Hv.out]; exact hgt, rfl⟩, hbR.set _⟩, hB.setCell (p := ⟨w.heap.size + 1, 0, none⟩) (by simp) _⟩
      · gi_wp2
        exact ⟨KeepsFrom.refl _ _, KpD.refl _ _ _, ⟨fun p hp => (List.mem_append.1 hp).elim (hz p) (fun e => by simp at e; subst e; rw [← H.out, ← Hv.out]; omega), hbB, hbR⟩, hB⟩
  case done =>
    rintro D ys W hD hS ⟨⟨hz, hbB, hbR⟩, hB⟩ hK
    have cR := hbR.cell
    have fR := hbR.frozen
    gi_wp2
    have hK' := (KeepsOthers.setCell W ⟨w.heap.size + 1, 0, none⟩ (.int .i64 0)).same D _ hK rfl
    have hB' := hB.setCell (p := ⟨w.heap.size + 1, 0, none⟩) (by simp) (.int .i64 0)
    refine ⟨by simp, .inl ⟨_, _, rfl, run_takeDeferred hK', ?_⟩⟩
    have hc5 := cell_kept (hbR.set (.int .i64 0)).cell (grownBy_putObj' _ D (.deferred none)) (fun r e => by cases e; exact ⟨_, hK', rfl⟩)
    have ev : cmpN (val la) (val lb) = 0 := by
      have e : la = lb := val_take_eq (fun j hj => by obtain ⟨i, hi, rfl⟩ := mem_of_all hS j hj; exact hz i hi) Hlen.out
      simp [cmpN, e]
    rw [ev]
    refine ⟨.int .i64 0, ?_, rfl, hB'.trans (belowK_b (w := w) (Nat.le_refl _) _ D _ _ (by omega) hK' rfl rfl)⟩
    simp [results, Tryz.f142, go_sem, hc5]
  case stop =>
    rintro D c pre W hD hS ⟨⟨rfl, ini, last, r, rfl, e2, e3, hbR⟩, hB⟩ hK
    gi_wp2
    refine ⟨by simp, .inl ⟨_, _, rfl, run_takeDeferred hK, ?_⟩⟩
    have hc5 := cell_kept hbR.cell (grownBy_putObj' _ D (.deferred none)) (fun r e => by cases e; exact ⟨_, hK, rfl⟩)
    have hx := last.2
    have hB2 := hB.trans (belowK_b (w := w) (Nat.le_refl _) W D _ (.deferred none) (by omega) hK rfl rfl)
    have hafter : ∀ j, last.1 < j → j < la.length → la[j]?.getD 0 = lb[j]?.getD 0 := fun j h1 h2 => by obtain ⟨i, hi, rfl⟩ := mem_of_after hS j h1 h2; exact e2 i hi
    have ev : cmpN (val la) (val lb) = r := by
      rcases e3 with ⟨e3, rfl⟩ | ⟨e3, rfl⟩
      · simp [cmpN, lt_of_top hla Hlen.out hx e3 hafter]
      · have := lt_of_top hlb Hlen.out.symm (by rw [← Hlen.out]; exact hx) e3 (fun j h1 h2 => (hafter j h1 (by rw [Hlen.out]; exact h2)).symm)
        have h5 : ¬ val la < val lb := by omega
        simp [cmpN, this, h5]
    rw [ev]
    refine ⟨.int .i64 r, ?_, rfl, hB2⟩
    simp [results, Tryz.f142, go_sem, hc5]
theorem compare_any (sa sb : Value) (la lb : List Nat) (hla : Lm la) (hlb : Lm lb) (w : World) (h : Lim w sa la) (k : Lim w sb lb) :
  Calls Tryz.prog 142 #[sa, sb] w fun e w' => e = .returned (.int .i64 (cmpL la lb)) ∧ Below w.heap.size w w' :=
 callsIn_wide.1 (compare_in Fence.wide 3 trivial trivial trivial rfl (Nat.le_refl _) sa sb la lb hla hlb w h k)
end Go.Proofs.YtmbcnfogjncdaaaGreat
namespace Go.Proofs.YtmbcnfogjncdaaaGreat
open Go.RowKit Wh
theorem cell_at {W : World} {B : Nat} {C : Array Value} {T : TypeId} {m : Nat × Nat} (h : W.heap[B]? = some (.cells C T m)) (j : Nat) : W.cell? ⟨B, 0 + j, none⟩ = C[j]? := by
 simp [World.cell?, h]
theorem four (n : Nat) (w : World) (T : TypeId) : Lim (w.alloc (.cells #[.int .u16 (IntKind.u16.wrap (n : Int)), .int .u16 (IntKind.u16.wrap ((n : Int) / 65536)), .int .u16 (IntKind.u16.wrap ((n : Int) / 4294967296)), .int .u16 ((n : Int) / 281474976710656)] T)) (.slice (some ⟨w.heap.size, 0, none⟩) 4 4)
  [n % 65536, n / 65536 % 65536, n / 4294967296 % 65536, n / 281474976710656] := by
 refine ⟨_, 4, rfl, by simp, ⟨by omega, by simp, fun e => by cases e⟩, .inr ⟨w.heap.size, 0, rfl, fun j hj => ?_⟩⟩
 have e1 : IntKind.u16.wrap (n : Int) = ((n % 65536 : Nat) : Int) := by rw [IntKind.wrap_u16]; omega
 have e2 : IntKind.u16.wrap ((n : Int) / 65536) = ((n / 65536 % 65536 : Nat) : Int) := by rw [IntKind.wrap_u16]; omega
 have e3 : IntKind.u16.wrap ((n : Int) / 4294967296) = ((n / 4294967296 % 65536 : Nat) : Int) := by rw [IntKind.wrap_u16]; omega
 rw [e1, e2, e3]
 have hh := World.alloc_heap_new w (.cells #[.int .u16 ((n % 65536 : Nat) : Int), .int .u16 ((n / 65536 % 65536 : Nat) : Int), .int .u16 ((n / 4294967296 % 65536 : Nat) : Int), .int .u16 ((n : Int) / 281474976710656)] T)
 simp only [List.length_cons, List.length_nil] at hj
 match j, hj with
 | 0, _ => rw [cell_at hh]; simp
 | 1, _ => rw [cell_at hh]; simp
 | 2, _ => rw [cell_at hh]; simp
 | 3, _ => rw [cell_at hh]; simp
theorem limbsOf_any (n : Nat) (hn : n < 18446744073709551616) (w : World) :
    Calls Tryz.prog 65 #[.int .u64 (n : Int)] w fun e w' => (∃ v', e = .returned v' ∧ LimF w.heap.size w' v' (dig n)) ∧ Below w.heap.size w w' := by
  go_enter Tryz.func65, Tryz.ntmps65
  go_wp2_with fail
  refine wp_loop_rounds 5 ?_
  rw [rounds_succ]
  go_wp2_with fail
  rw [rounds_succ]
  go_wp2_with fail
  rw [rounds_succ]
  go_wp2_with fail
  rw [rounds_succ]
  go_wp2_with fail
  rw [rounds_succ]
  go_wp2_with fail
  refine (trim_any _ [n % 65536, n / 65536 % 65536, n / 4294967296 % 65536, n / 281474976710656] ?_ _ (four n w _)).mono ?_
  · intro x hx
    simp at hx
    omega
  have ev : val [n % 65536, n / 65536 % 65536, n / 4294967296 % 65536, n / 281474976710656] = n := by
    simp only [val_cons, val_nil]; omega
  rw [ev]
  clear ev
  rintro e w1 ⟨⟨v', rfl, hl', hpt⟩, hb⟩
  have hfr := ((Fr.part (.inr ⟨w.heap.size, 4, 4, _, _, rfl, Nat.le_refl _, World.alloc_heap_new w _, rfl⟩) hpt).below hb)
  go_wp2
  go_ret
  exact ⟨⟨v', rfl, hl', hfr⟩, ((Below.refl _ w).alloc (Nat.le_refl _) _).trans (hb.mono (by simp))⟩
theorem Tryz.infoU : (Tryz.prog.info? 59).map (fun i => (i.zero, i.size, i.bytes)) = some (some (.int .u16 0), 1, 2) := by kernel_rfl
theorem copied_any (sv : Value) (l : List Nat) (w : World) (h : Lim w sv l) :
    Calls Tryz.prog 164 #[sv] w fun e w' => (∃ v', e = .returned v' ∧ Lim w' v' l ∧ w'.ownsRow w.heap.size 59 1 v' l.length (cellsOf l)) ∧ Below w.heap.size w w' := by
  have h' := h
  obtain ⟨a, cap, rfl, hlc, ⟨hcm, hcl, hcn⟩, hcs⟩ := h'
  obtain ⟨i0, hi, hz0, hz1, hz2⟩ := info_parts Tryz.infoU
  cases a with
  | none =>
    have h0 : cap = 0 := hcn rfl
    subst h0
    have h1 : l = [] := List.eq_nil_of_length_eq_zero (by omega)
    subst h1
    clear hcn hcs h
    go_enter Tryz.func164, Tryz.ntmps164
    go_wp2
    go_ret
    exact ⟨⟨_, rfl, Lim.nil _, World.ownsRow_nil _ _ _ _⟩, Below.refl _ _⟩
  | some ad =>
    have hnews : ∀ j u, (cellsOf l)[j]? = some u → w.cell? (ad.add j) = some u := fun j u hu => by
      have hj : j < l.length := by
        have := (List.getElem?_eq_some_iff.1 hu).1
        simpa [cellsOf] using this
      rcases hcs with rfl | ⟨b, off, e, hc⟩
      · simp at hj
      · cases e
        rw [← hu, cellsOf_get l j hj, add_eq]
        exact hc j hj
    have h1c : ∀ u ∈ cellsOf l, u.oneCell' = true := fun u hu => by
      obtain ⟨x, _, rfl⟩ := List.mem_map.1 hu
      rfl
    clear hcn hcs h
    go_enter Tryz.func164, Tryz.ntmps164
    go_wp2_with (at_builtin; refine wpList_append_own _ rfl _ _ 22 rfl w.heap.size 59 i0 (.int .u16 0) 1 2 Tryz.underlying22 hi hz0 hz1 hz2 rfl (by decide) _ _ [] rfl (World.ownsRow_nil _ _ _ _) ad l.length cap (cellsOf l) rfl (by simp [cellsOf]) hnews h1c (by unfold maxLen; omega) (by omega) (Nat.le_refl _) ?_; intro v' w1 hown hgrow _)
    go_ret
    simp only [Nat.zero_add, List.nil_append] at hown
    have hg2 : w.grownBy w1 none := hgrow
    exact ⟨⟨_, rfl, Lim.of_owns hown hcl, hown⟩, (Below.refl _ w).grown hg2 (Nat.le_refl _) (fun k e => by cases e)⟩
end Go.Proofs.YtmbcnfogjncdaaaGreat
namespace Go.Proofs.YtmbcnfogjncdaaaGreat
open Go.RowKit Wh
def vld (neg : Bool) (l : List Nat) : Bool := if l = [] then !neg else decide (l.length ≤ 1024) && decide (l[l.length - 1]?.getD 0 ≠ 0)
theorem number_any (b : Bool) (s : Value) (l : List Nat) (w : World) (h : Lim w s l) :
    Calls Tryz.prog 58 #[.bool b, s] w fun e w' => e = .returned (.agg #[.bool (b && decide (l ≠ [])), s]) ∧ Below w.heap.size w w' := by
  obtain ⟨a, cap, rfl, hlc, ⟨hcm, hcl, hcn⟩, hcs⟩ := id h
  clear hcn hcs
  cases b with
  | false =>
    go_enter Tryz.func58, Tryz.ntmps58
    go_wp2
    exact bodyPost_ret (v := .agg #[.bool false, .slice a l.length cap]) (by simp [results, Tryz.results58, go_sem]) rfl ⟨by simp, (Below.refl _ _).alloc (Nat.le_refl _) _⟩
  | true =>
    by_cases hl : l = []
    · subst hl
      go_enter Tryz.func58, Tryz.ntmps58
      go_wp2
      exact bodyPost_ret (v := .agg #[.bool false, .slice a 0 cap]) (by simp [results, Tryz.results58, go_sem]) rfl ⟨by simp, (Below.refl _ _).alloc (Nat.le_refl _) _⟩
    · have h0 : (0 : Int) < (l.length : Int) := by have := List.length_pos_iff.2 hl; omega
      go_enter Tryz.func58, Tryz.ntmps58
      go_wp2
      have hpos : 0 < l.length := List.length_pos_iff.2 hl
      exact bodyPost_ret (v := .agg #[.bool true, .slice a l.length cap]) (by simp [results, Tryz.results58, go_sem, hpos]) rfl ⟨by simp [hl], (Below.refl _ _).alloc (Nat.le_refl _) _⟩
theorem Valid_any (b : Bool) (s : Value) (l : List Nat) (w : World) (h : Lim w s l) :
    Calls Tryz.prog 7 #[.agg #[.bool b, s]] w fun e w' => e = .returned (.bool (vld b l)) ∧ Below w.heap.size w w' := by
  obtain ⟨a, cap, rfl, hlc, ⟨hcm, hcl, hcn⟩, hcs⟩ := id h
  clear hcn
  by_cases hl : l = []
  · subst hl
    go_enter Tryz.func7, Tryz.ntmps7
    go_wp2
    go_ret
    exact ⟨by simp [vld], (Below.refl _ _).alloc (Nat.le_refl _) _⟩
  · have h0 : (0 : Int) < (l.length : Int) := by have := List.length_pos_iff.2 hl; omega
    have h1 : ((l.length : Int) == 0) = false := by simp; exact hl
    rcases hcs with hcs | ⟨bk, off, rfl, hc⟩
    · exact absurd hcs hl
    · have hlast := hc (l.length - 1) (by omega)
      have hbl : bk < w.heap.size := lt_of_cell hlast
      by_cases hlen : l.length ≤ 1024
      · have h2 : (l.length : Int) ≤ 1024 := by omega
        have e1 : off + (l.length - 1) = off + ((l.length : Int) - 1).toNat := by omega
        rw [e1] at hlast
        go_enter Tryz.func7, Tryz.ntmps7
        go_wp2
        go_ret
        have e3 : vld b l = (((l[l.length - 1]?.getD 0 : Nat) : Int) != 0) := by
          unfold vld
          rw [if_neg hl, decide_eq_true hlen, Bool.true_and, Bool.eq_iff_iff]
          simp
        exact ⟨by rw [e3]; rfl, (Below.refl _ _).alloc (Nat.le_refl _) _⟩
      · have h2 : ¬ (l.length : Int) ≤ 1024 := by omega
        go_enter Tryz.func7, Tryz.ntmps7
        go_wp2
        go_ret
        have e3 : vld b l = false := by
          unfold vld
          rw [if_neg hl, decide_eq_false hlen, Bool.false_and]
        exact ⟨by rw [e3]; rfl, (Below.refl _ _).alloc (Nat.le_refl _) _⟩
theorem bcell {W w1 : World} (hb : Below W.heap.size W w1) : (∀ b o, b < W.heap.size → w1.cell? ⟨b, o, none⟩ = W.cell? ⟨b, o, none⟩) ∧ (∀ b o, b < W.heap.size → w1.frozen? ⟨b, o, none⟩ = W.frozen? ⟨b, o, none⟩) :=
 ⟨fun b o h => hb.cell (p := ⟨b, o, none⟩) h, fun b o h => hb.frozen (p := ⟨b, o, none⟩) h⟩
theorem allValid_two (B : Nat) (b : Bool) (s : Value) (l : List Nat) (b' : Bool) (s' : Value) (l' : List Nat) (w : World) (h0 : w.cell? ⟨B, 0, none⟩ = some (.bool b)) (h1 : w.cell? ⟨B, 1, none⟩ = some s)
  (h2 : w.cell? ⟨B, 2, none⟩ = some (.bool b')) (h3 : w.cell? ⟨B, 3, none⟩ = some s') (h : Lim w s l) (g : Lim w s' l') :
  Calls Tryz.prog 52 #[.slice (some ⟨B, 0, none⟩) 2 2] w fun e w' => e = .returned (.bool (vld b l && vld b' l')) ∧ Below w.heap.size w w' := by
 have hB : B < w.heap.size := lt_of_cell h0
 have hV := fun W (hW : Below w.heap.size w W) => Valid_any b s l W (h.below hW (Nat.le_refl _))
 have gV := fun W (hW : Below w.heap.size w W) => Valid_any b' s' l' W (g.below hW (Nat.le_refl _))
 have HV := Lib.hid hV
 have GV := Lib.hid gV
 clear hV gV
 obtain ⟨a, cap, rfl, -⟩ := id h
 obtain ⟨a', cap', rfl, -⟩ := id g
 clear h g
 obtain ⟨v, hv⟩ : ∃ v, v = vld b l := ⟨_, rfl⟩
 obtain ⟨v', hv'⟩ : ∃ v, v = vld b' l' := ⟨_, rfl⟩
 rw [← hv] at HV ⊢
 rw [← hv'] at GV ⊢
 clear hv hv'
 have hz := (Below.refl w.heap.size w).alloc (Nat.le_refl _) (.cells #[.bool b, .slice a l.length cap] 24)
 cases v with
 | true =>
  cases v' with
  | true =>
   go_enter Tryz.func52, Tryz.ntmps52
   go_wp2_with fail
   refine wp_loop_rounds 3 ?_
   rw [rounds_succ]
   go_wp2_with (go_at_call 7; refine (HV.out _ hz).mono ?_; rintro e w1 ⟨rfl, hb1⟩; obtain ⟨hc1, hf1⟩ := bcell hb1; have hs1 := hb1.size; simp only [World.size_alloc] at hs1 hc1 hf1)
   rw [rounds_succ]
   go_wp2_with (go_at_call 7; refine (GV.out _ ((hz.trans (hb1.mono (by simp))).alloc (by omega) _)).mono ?_; rintro e w2 ⟨rfl, hb2⟩)
   rw [rounds_succ]
   go_wp2
   go_ret
   exact ⟨rfl, ((hz.trans (hb1.mono (by simp))).alloc (by omega) _).trans (hb2.mono (by simp; omega))⟩
  | false =>
   go_enter Tryz.func52, Tryz.ntmps52
   go_wp2_with fail
   refine wp_loop_rounds 3 ?_
   rw [rounds_succ]
   go_wp2_with (go_at_call 7; refine (HV.out _ hz).mono ?_; rintro e w1 ⟨rfl, hb1⟩; obtain ⟨hc1, hf1⟩ := bcell hb1; have hs1 := hb1.size; simp only [World.size_alloc] at hs1 hc1 hf1)
   rw [rounds_succ]
   go_wp2_with (go_at_call 7; refine (GV.out _ ((hz.trans (hb1.mono (by simp))).alloc (by omega) _)).mono ?_; rintro e w2 ⟨rfl, hb2⟩)
   go_ret
   exact ⟨rfl, ((hz.trans (hb1.mono (by simp))).alloc (by omega) _).trans (hb2.mono (by simp; omega))⟩
 | false =>
  go_enter Tryz.func52, Tryz.ntmps52
  go_wp2_with fail
  refine wp_loop_rounds 3 ?_
  rw [rounds_succ]
  go_wp2_with (go_at_call 7; refine (HV.out _ hz).mono ?_; rintro e w1 ⟨rfl, hb1⟩)
  go_ret
  exact ⟨rfl, hz.trans (hb1.mono (by simp))⟩
end Go.Proofs.YtmbcnfogjncdaaaGreat
namespace Go.Proofs.YtmbcnfogjncdaaaGreat
open Go.RowKit Wh
def putV (Bc Bl : Nat) : Value := .func (.func 209) #[] #[.pointer (some ⟨Bc, 0, none⟩), .pointer (some ⟨Bl, 0, none⟩)]
def endV (Bp Bc Bl : Nat) : Value := .func (.func 210) #[] #[.pointer (some ⟨Bc, 0, none⟩), .pointer (some ⟨Bp, 0, none⟩), .pointer (some ⟨Bl, 0, none⟩)]
theorem box_ne {W : World} {B B' : Nat} {t t' : TypeId} {v v' : Value} (h : Boxed W B t v) (k : Boxed W B' t' v') (htt : t ≠ t') : ¬ B = B' := fun e => by
 subst e
 have := (show W.heap[B]? = _ from h).symm.trans k
 simp at this
 exact htt this.2
theorem cell_set_new (w : World) (p : Addr) (v x : Value) (T : TypeId) : ∀ j u, [x][j]? = some u → ((w.setCell p v).alloc (.cells #[x] T)).cell? ((⟨w.heap.size, 0, none⟩ : Addr).add j) = some u := by
 have h := cell_one_new (w.setCell p v) x T
 have e : (w.setCell p v).heap.size = w.heap.size := by simp [World.setCell]
 rw [e] at h
 exact h
def Col (B : Nat) (W : World) (Bp Bc Bl : Nat) (l : List Nat) (c : Int) : Prop :=
 Boxed W Bp 156 (putV Bc Bl) ∧ Boxed W Bc 2 (.int .i64 c) ∧ (∃ v, Boxed W Bl 22 v ∧ W.ownsRow B 59 1 v l.length (cellsOf l)) ∧ B ≤ Bp ∧ B ≤ Bc ∧ B ≤ Bl
theorem collect_any (room : Int) (h0 : 0 ≤ room) (h : room ≤ 140737488351232) (w : World) :
  Calls Tryz.prog 167 #[.int .i64 room] w fun e w' => (∃ Bp Bc Bl, e = .returned (.tuple #[putV Bc Bl, endV Bp Bc Bl]) ∧ Col w.heap.size w' Bp Bc Bl [] 0) ∧ Below w.heap.size w w' := by
 obtain ⟨r, rfl⟩ := Int.eq_ofNat_of_zero_le h0
 obtain ⟨i0, hi, hz0, hz1, hz2⟩ := info_parts Tryz.infoU
 go_enter Tryz.func167, Tryz.ntmps167
 go_wp2_with (at_make; refine wpList_make_own _ rfl _ _ 22 rfl w.heap.size 59 i0 (.int .u16 0) 1 Tryz.underlying22 hi hz0 hz1 _ _ _ r rfl rfl rfl (by rw [hz2]; omega) (by unfold maxLen; omega) (by simp) ?_; intro w1 hown hgrow; have b2 := (Boxed.new w 156 .nilFunc).kept hgrow (by simp); have c2 := b2.cell; have f2 := b2.frozen; have hlt := b2.lt)
 have b3 := (b2.set (putV (w1.heap.size + 1) w1.heap.size)).set (putV (w1.heap.size + 1) w1.heap.size)
 have g3 : w1.grownBy ((w1.setCell ⟨w.heap.size, 0, none⟩ (putV (w1.heap.size + 1) w1.heap.size)).setCell ⟨w.heap.size, 0, none⟩ (putV (w1.heap.size + 1) w1.heap.size)) (some w.heap.size) :=
  (grownBy_setCell' w1 w.heap.size _).trans (grownBy_setCell' _ w.heap.size _)
 rw [World.size_alloc] at hown
 have o3 := hown.kept g3 (.inr (by simp [Value.ownBlock]))
 have B3 := (((Below.refl w.heap.size w).alloc (Nat.le_refl _) (.cells #[.nilFunc] 156)).grown hgrow (by simp) (fun k e => by cases e)).grown g3 (by omega) (fun k e => by cases e; omega)
 change bodyPost _ _ _ _ _ ((World.alloc (World.alloc ((w1.setCell ⟨w.heap.size, 0, none⟩ (putV (w1.heap.size + 1) w1.heap.size)).setCell ⟨w.heap.size, 0, none⟩ (putV (w1.heap.size + 1) w1.heap.size)) _) _))
 have hX : ((w1.setCell ⟨w.heap.size, 0, none⟩ (putV (w1.heap.size + 1) w1.heap.size)).setCell ⟨w.heap.size, 0, none⟩ (putV (w1.heap.size + 1) w1.heap.size)).heap.size = w1.heap.size := by simp [World.setCell]
 generalize ((w1.setCell ⟨w.heap.size, 0, none⟩ (putV (w1.heap.size + 1) w1.heap.size)).setCell ⟨w.heap.size, 0, none⟩ (putV (w1.heap.size + 1) w1.heap.size)) = X at b3 o3 B3 hX ⊢
 have b4 := (b3.alloc (.cells #[.slice (some ⟨w.heap.size + 1, 0, none⟩) 0 r] 22)).alloc (.cells #[.int .i64 0] 2)
 have b5 := (Boxed.new X 22 (.slice (some ⟨w.heap.size + 1, 0, none⟩) 0 r)).alloc (.cells #[.int .i64 0] 2)
 have b6 := Boxed.new (X.alloc (.cells #[.slice (some ⟨w.heap.size + 1, 0, none⟩) 0 r] 22)) 2 (.int .i64 0)
 rw [World.size_alloc] at b6
 rw [hX] at b5 b6
 have c4 := b4.cell
 unfold putV at c4
 refine bodyPost_ret (v := .tuple #[putV (w1.heap.size + 1) w1.heap.size, endV w.heap.size (w1.heap.size + 1) w1.heap.size]) (by simp [results, Tryz.results167, go_sem, c4, putV, endV]) rfl ?_
 exact ⟨⟨_, _, _, rfl, b4, b6, ⟨_, b5, (o3.alloc _).alloc _⟩, Nat.le_refl _, by omega, by omega⟩, (B3.alloc (by omega) _).alloc (by simp; omega) _⟩
theorem put_step (l : List Nat) (c d : Int) : ((val (l ++ [((c + d) % 65536).toNat]) : Nat) : Int) + ((65536 ^ (l.length + 1) : Nat) : Int) * ((c + d) / 65536) = (val l : Int) + ((65536 ^ l.length : Nat) : Int) * (c + d) := by
 rw [val_append]
 simp only [val_cons, val_nil, Nat.mul_zero, Nat.add_zero, Nat.pow_succ]
 have h1 : ((c + d) % 65536).toNat = (c + d) % 65536 := Int.toNat_of_nonneg (by omega)
 have h2 : c + d = (c + d) % 65536 + 65536 * ((c + d) / 65536) := by omega
 generalize 65536 ^ l.length = p
 rw [show ((val l + p * ((c + d) % 65536).toNat : Nat) : Int) = (val l : Int) + (p : Int) * (((c + d) % 65536).toNat : Int) from by simp [Int.natCast_add, Int.natCast_mul], h1]
 rw [show ((p * 65536 : Nat) : Int) = (p : Int) * 65536 from by simp [Int.natCast_mul]]
 conv => rhs; rw [h2, Int.mul_add]
 rw [Int.mul_assoc]
 omega
theorem put_any (B Bp Bc Bl : Nat) (l : List Nat) (c d : Int) (hlo : -9223372036854775808 ≤ c + d) (hhi : c + d ≤ 9223372036854775807) (hl : l.length ≤ 1048576) (w : World) (hB : B ≤ w.heap.size) (h : Col B w Bp Bc Bl l c) :
  Calls Tryz.prog 209 #[.int .i64 d, .pointer (some ⟨Bc, 0, none⟩), .pointer (some ⟨Bl, 0, none⟩)] w fun e w' => e = .returned (.tuple #[]) ∧ Col B w' Bp Bc Bl (l ++ [((c + d) % 65536).toNat]) ((c + d) / 65536) ∧ Below B w w' := by
 obtain ⟨i0, hi, hz0, hz1, hz2⟩ := info_parts Tryz.infoU
 obtain ⟨hp, hc, ⟨v, hv, hown⟩, h1, h2, h3⟩ := h
 have cc := hc.cell
 have fc := hc.frozen
 have cv := hv.cell
 have n1 : ¬ Bc = Bl := box_ne hc hv (by decide)
 have n2 : ¬ Bl = Bc := box_ne hv hc (by decide)
 have hs : (w.setCell ⟨Bc, 0, none⟩ (.int .i64 (c + d))).heap.size = w.heap.size := by simp [World.setCell]
 have hown2 := hown.kept (grownBy_setCell' w Bc (.int .i64 (c + d))) (.inr (hc.not_row (by decide) hown).symm)
 have hc2 := hc.set (.int .i64 (c + d))
 have hv2 := hv.kept (grownBy_setCell' w Bc (.int .i64 (c + d))) (by simp [n2])
 have hp2 := hp.kept (grownBy_setCell' w Bc (.int .i64 (c + d))) (by simp; exact box_ne hp hc (by decide))
 have hB2 := (Below.refl B w).setCell (p := ⟨Bc, 0, none⟩) h2 (.int .i64 (c + d))
 have hvl := hv.lt
 have hcl := hc.lt
 have HC := Lib.hid hc
 have HV := Lib.hid hv
 have HS := Lib.hid hs
 clear hc hv hs
 go_enter Tryz.func209, Tryz.ntmps209
 go_wp2_with (at_builtin; refine wpList_append_own _ rfl _ _ 22 rfl B 59 i0 (.int .u16 0) 1 2 Tryz.underlying22 hi hz0 hz1 hz2 rfl (by decide) _ _ _ rfl (hown2.alloc _) ⟨w.heap.size, 0, none⟩ 1 1 [.int .u16 (IntKind.u16.wrap (c + d))] rfl rfl (cell_set_new _ _ _ _ _) (by simp [Value.oneCell']) (by unfold maxLen; omega) (by omega) (by simp; omega) ?_; intro v' w1 hown' hgrow _; obtain ⟨g', cap', rfl⟩ := ownsRow_succ hown'; obtain ⟨hv1, hv3, hr3, hk3, hb3⟩ := hv2.appended (by decide) hown2 (by rw [HS.out]; exact hB) h3 hown' hgrow; have hc3 := (hc2.alloc _).kept hgrow (hc2.not_row (by decide) hown2); have cv3 := hv1.cell; have fv3 := hv1.frozen; have cc3 := hc3.cell; have fc3 := hc3.frozen)
 go_end0
 have hp3 := ((hp2.alloc _).kept hgrow (hp2.not_row (by decide) hown2)).kept (grownBy_setCell' w1 Bl (.slice (some ⟨g', 0, none⟩) (l.length + 1) cap')) (by simp; exact box_ne hp HV.out (by decide))
 have hc4 := hc3.kept (grownBy_setCell' w1 Bl (.slice (some ⟨g', 0, none⟩) (l.length + 1) cap')) (by simp [n1])
 have hv4 := hv3.kept (grownBy_setCell' _ Bc (.int .i64 ((c + d) / 65536))) (by simp [n2])
 have hp4 := hp3.kept (grownBy_setCell' _ Bc (.int .i64 ((c + d) / 65536))) (by simp; exact box_ne hp HC.out (by decide))
 have hr4 := hr3.kept (grownBy_setCell' _ Bc (.int .i64 ((c + d) / 65536))) (.inr (hc4.not_row (by decide) hr3).symm)
 have ec : cellsOf l ++ [.int .u16 (IntKind.u16.wrap (c + d))] = cellsOf (l ++ [((c + d) % 65536).toNat]) := by
  simp only [cellsOf, List.map_append, List.map_cons, List.map_nil]
  rw [Int.toNat_of_nonneg (by omega), IntKind.wrap_u16]
 rw [ec] at hr4
 exact ⟨rfl, ⟨hp4, hc4.set _, ⟨_, hv4, by simpa using hr4⟩, h1, h2, h3⟩, (hB2.trans hb3).setCell (p := ⟨Bc, 0, none⟩) h2 _⟩
def carryOf (W : World) (B : Nat) : Nat := match W.cell? ⟨B, 0, none⟩ with | some (.int _ n) => n.toNat | _ => 0
theorem carryOf_eq {W : World} {B : Nat} {n : Int} (h : W.cell? ⟨B, 0, none⟩ = some (.int .i64 n)) : carryOf W B = n.toNat := by simp [carryOf, h]
theorem end_step (l : List Nat) (c : Int) (h : 0 ≤ c) : val (l ++ [((c + 0) % 65536).toNat]) + 65536 ^ (l ++ [((c + 0) % 65536).toNat]).length * ((c + 0) / 65536).toNat = val l + 65536 ^ l.length * c.toNat := by
 have := put_step l c 0
 have h1 : (0 : Int) ≤ (c + 0) / 65536 := by omega
 simp only [List.length_append, List.length_cons, List.length_nil, Nat.zero_add]
 rw [Int.add_zero] at this h1 ⊢
 have e1 : ((c / 65536).toNat : Int) = c / 65536 := Int.toNat_of_nonneg h1
 have e2 : (c.toNat : Int) = c := Int.toNat_of_nonneg h
 rw [← e1] at this
 conv at this => rhs; rw [← e2]
 have e3 : ((c.toNat : Int) % 65536).toNat = (c % 65536).toNat := by rw [e2]
 rw [e2] at this
 rw [← e2] at this
 have g : ∀ a b p q r s : Nat, (a : Int) + (p : Int) * (q : Int) = (b : Int) + (r : Int) * (s : Int) → a + p * q = b + r * s := by
  intro a b p q r s hh
  have : ((a + p * q : Nat) : Int) = ((b + r * s : Nat) : Int) := by simpa [Int.natCast_add, Int.natCast_mul] using hh
  exact_mod_cast this
 have := g _ _ _ _ _ _ this
 simpa [e2] using this
def EndRel (B Bp Bc Bl : Nat) (l : List Nat) (c : Int) (w wr : World) : Prop :=
 ∃ (k : Nat) (l' : List Nat) (c' : Int), k ≤ 4 ∧ l'.length = l.length + k ∧ 0 ≤ c' ∧ c' ≤ 9223372036854775807 ∧ c'.toNat < 65536 ^ (4 - k) ∧ Lm l' ∧ val l' + 65536 ^ l'.length * c'.toNat = val l + 65536 ^ l.length * c.toNat ∧ Col B wr Bp Bc Bl l' c' ∧ Below B w wr
theorem end_any (B Bp Bc Bl : Nat) (l : List Nat) (c : Int) (hlm : Lm l) (hlo : 0 ≤ c) (hhi : c ≤ 9223372036854775807) (hl : l.length ≤ 1048570) (w : World) (hB : B ≤ w.heap.size) (h : Col B w Bp Bc Bl l c) :
    Calls Tryz.prog 210 #[.pointer (some ⟨Bc, 0, none⟩), .pointer (some ⟨Bp, 0, none⟩), .pointer (some ⟨Bl, 0, none⟩)] w fun e w' => (∃ v', e = .returned v' ∧ LimF B w' v' (dig (val l + 65536 ^ l.length * c.toNat))) ∧ Below B w w' := by
  go_enter Tryz.func210, Tryz.ntmps210
  go_wp2
  go_loopw [4] (fun _ wr => EndRel B Bp Bc Bl l c w wr) (fun _ wr => carryOf wr Bc)
  case atStart => exact ⟨0, l, c, by omega, by omega, hlo, hhi, by omega, hlm, rfl, h, Below.refl _ _⟩
  case round =>
    obtain ⟨k, l', c', hk, hl', hlo', hhi', hc', hlm', hv, hcol, hb⟩ := hrel
    have cc := hcol.2.1.cell
    have cp := hcol.1.cell
    obtain ⟨v, hv2, hown⟩ := hcol.2.2.1
    have cv := hv2.cell
    have hcol2 := hcol
    unfold putV at cp
    have HV := Lib.hid hv
    have HL := Lib.hid hl'
    have hll : l'.length ≤ 1048576 := by omega
    have hBr : B ≤ wr.heap.size := Nat.le_trans hB hb.size
    have em : carryOf wr Bc = c'.toNat := carryOf_eq cc
    have EM := Lib.hid em
    clear hv hl' em
    by_cases h0 : 0 < c'
    · go_wp2_with (go_at_call 209; refine (put_any B Bp Bc Bl l' c' 0 (by omega) (by omega) hll wr hBr hcol2).mono ?_; rintro e w1 ⟨rfl, hcol1, hb1⟩)
      have hk4 : k < 4 := by
        rcases Nat.lt_or_ge k 4 with h | h
        · exact h
        · have : 4 - k = 0 := by omega
          rw [this] at hc'
          omega
      refine ⟨⟨k + 1, _, _, by omega, by rw [List.length_append, HL.out]; rfl, by omega, by omega, ?_, hlm'.append (.cons (by omega) .nil), by rw [end_step l' c' hlo']; exact HV.out, hcol1, hb.trans hb1⟩, ?_⟩
      · have e : 65536 ^ (4 - k) = 65536 ^ (4 - (k + 1)) * 65536 := by rw [← Nat.pow_succ]; congr 1; omega
        rw [e] at hc'
        have : ((c' + 0) / 65536).toNat = c'.toNat / 65536 := by omega
        rw [this]
        exact Nat.div_lt_of_lt_mul (by rw [Nat.mul_comm]; exact hc')
      · rw [EM.out, carryOf_eq hcol1.2.1.cell]; omega
    · go_wp2_with (go_at_call 136; refine (trim_any v l' hlm' wr (Lim.of_owns hown (by omega))).mono ?_; rintro e w1 ⟨⟨v', rfl, hl1, hpt⟩, hb1⟩)
      go_ret
      have e0 : c' = 0 := by omega
      have ev := HV.out
      rw [e0] at ev
      simp only [Int.toNat_zero, Nat.mul_zero, Nat.add_zero] at ev
      rw [ev] at hl1
      exact ⟨⟨v', rfl, hl1, ((Fr.of_owns hown).part hpt).below hb1⟩, hb.trans (hb1.mono hBr)⟩
end Go.Proofs.YtmbcnfogjncdaaaGreat
