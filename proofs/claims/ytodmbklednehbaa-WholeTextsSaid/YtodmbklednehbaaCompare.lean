/-
'compare': which of two lists of limbs is longer, or, at equal lengths, greater.
-/
import Derived.Test.YtodmbklednehbaaWord
namespace Go.Proofs.Ytodmbklednehbaa
open Go.RowKit Go.Shelf Wh
attribute [local go_sem] Oper.semAt_some

def cmpN (m n : Nat) : Int := if m < n then -1 else if n < m then 1 else 0
def cmpL (a b : List Nat) : Int := if a.length < b.length then -1 else if b.length < a.length then 1 else cmpN (val a) (val b)

theorem cmp_dig (m n : Nat) : cmpL (dig m) (dig n) = cmpN m n := by
  unfold cmpL
  by_cases h : (dig m).length < (dig n).length
  · have : m < n := by
      by_cases hc : m < n
      · exact hc
      · have := length_dig_mono (show n ≤ m by omega); omega
    simp [h, cmpN, this]
  · by_cases h2 : (dig n).length < (dig m).length
    · have : n < m := by
        by_cases hc : n < m
        · exact hc
        · have := length_dig_mono (show m ≤ n by omega); omega
      have h3 : ¬ m < n := by omega
      simp [h, h2, cmpN, this, h3]
    · simp [h, h2, val_dig]

theorem val_take_eq {a b : List Nat} (h : ∀ j, j < a.length → a[j]?.getD 0 = b[j]?.getD 0) (hl : a.length = b.length) : a = b := by
  apply List.ext_getElem hl
  intro i h1 h2
  have := h i h1
  rwa [getD_lt_length h1, getD_lt_length h2] at this

theorem lt_of_top {a b : List Nat} (ha : Lm a) (hl : a.length = b.length) {m : Nat} (hm : m < a.length) (h0 : a[m]?.getD 0 < b[m]?.getD 0) (h : ∀ j, m < j → j < a.length → a[j]?.getD 0 = b[j]?.getD 0) : val a < val b := by
  have e1 := val_take_drop a (m + 1)
  have e2 := val_take_drop b (m + 1)
  have ed : a.drop (m + 1) = b.drop (m + 1) := val_take_eq (fun j hj => by
    simp at hj
    rw [List.getElem?_drop, List.getElem?_drop]
    exact h (m + 1 + j) (by omega) (by omega)) (by simp [hl])
  rw [Nat.min_eq_left (by omega)] at e1 e2
  rw [e1, e2, ed, val_take_succ hm, val_take_succ (by omega)]
  have h1 := val_lt (ha.take m)
  rw [List.length_take, Nat.min_eq_left (by omega)] at h1
  have h2 : 65536 ^ m * (a[m]?.getD 0) + 65536 ^ m ≤ 65536 ^ m * (b[m]?.getD 0) := by
    rw [← Nat.mul_succ]; exact Nat.mul_le_mul_left _ h0
  omega

set_option maxRecDepth 100000 in
set_option maxHeartbeats 4000000 in
theorem compare_in (F : Fence) (n : Nat) (hf : F.fn 59) (hf2 : F.fn 68) (hf3 : F.fn 76) (hro : F.round = none) (hn : 3 ≤ n) (sa sb : Value) (la lb : List Nat) (hla : Lm la) (hlb : Lm lb) (w : World) (h : Lim w sa la) (k : Lim w sb lb) :
    CallsIn F n Try.prog 59 #[sa, sb] w fun e w' => e = .returned (.int .i64 (cmpL la lb)) ∧ Below w.heap.size w w' := by
  have h1 : 1 ≤ n := by omega
  have h' := h
  have k' := k
  obtain ⟨a, cap, rfl, hlc, ⟨hcm, hcl, hcn⟩, hcs⟩ := h'
  clear hcn
  obtain ⟨b, capb, rfl, klc, ⟨kcm, kcl, kcn⟩, kcs⟩ := k'
  clear kcn
  by_cases hlen : la.length = lb.length
  case neg =>
    clear hcs kcs
    by_cases hlt : la.length < lb.length
    · have e0 : cmpL la lb = -1 := by simp [cmpL, hlt]
      rw [e0]
      refine callsIn_of_wp Try.func59 rfl hf ?_ hro
      simp only [Try.ntmps59, List.size_toArray, List.length_cons, List.length_nil, Nat.reduceAdd, Nat.reduceSub, Array.replicate_succ, Array.replicate_zero, List.push_toArray, List.append_toArray, List.nil_append, List.cons_append]
      clear e0
      gi_wp2
      exact bodyPost_ret (v := .int .i64 (-1)) (by simp [results, Try.results59, go_sem]) rfl ⟨rfl, ((Below.refl _ w).alloc (Nat.le_refl _) _).alloc (by simp) _⟩
    · have hlt2 : lb.length < la.length := by omega
      have e0 : cmpL la lb = 1 := by simp [cmpL, hlt, hlt2]
      rw [e0]
      refine callsIn_of_wp Try.func59 rfl hf ?_ hro
      simp only [Try.ntmps59, List.size_toArray, List.length_cons, List.length_nil, Nat.reduceAdd, Nat.reduceSub, Array.replicate_succ, Array.replicate_zero, List.push_toArray, List.append_toArray, List.nil_append, List.cons_append]
      clear e0
      gi_wp2
      exact bodyPost_ret (v := .int .i64 1) (by simp [results, Try.results59, go_sem]) rfl ⟨rfl, ((Below.refl _ w).alloc (Nat.le_refl _) _).alloc (by simp) _⟩
  have e0 : cmpL la lb = cmpN (val la) (val lb) := by simp [cmpL, hlen]
  rw [e0]
  clear e0
  have Hlen := Lib.hid hlen
  have hn1 : ¬ la.length < lb.length := by omega
  have hn2 : ¬ lb.length < la.length := by omega
  clear hlen
  refine callsIn_of_wp_marks Try.func59 rfl hf ?_ hro
  simp only [Try.ntmps59, List.size_toArray, List.length_cons, List.length_nil, Nat.reduceAdd, Nat.reduceSub, Array.replicate_succ, Array.replicate_zero, List.push_toArray, List.append_toArray, List.nil_append, List.cons_append]
  gi_wp2_with (gi_at_call 68; refine (down_in F (n - 1) hf2 hro _ _ _ _ rfl _).mono ?_; rintro e w' ⟨rfl, rfl⟩)
  have bB := Boxed.new w 24 (.slice b lb.length capb)
  have bR := Boxed.new (w.alloc (.cells #[.slice b lb.length capb] 24)) 3 (.int .i64 0)
  have bN := Boxed.new ((w.alloc (.cells #[.slice b lb.length capb] 24)).alloc (.cells #[.int .i64 0] 3)) 24 (.slice a la.length cap)
  rw [World.size_alloc] at bR
  rw [World.size_alloc, World.size_alloc] at bN
  have hB0 : Below w.heap.size w (((w.alloc (.cells #[.slice b lb.length capb] 24)).alloc (.cells #[.int .i64 0] 3)).alloc (.cells #[.slice a la.length cap] 24)) :=
    (((Below.refl _ w).alloc (Nat.le_refl _) _).alloc (by simp) _).alloc (by simp; omega) _
  have bB' := (bB.alloc (.cells #[.int .i64 0] 3)).alloc (.cells #[.slice a la.length cap] 24)
  have bR' := bR.alloc (.cells #[.slice a la.length cap] 24)
  obtain ⟨W0, hW0⟩ : ∃ W0, (((w.alloc (.cells #[.slice b lb.length capb] 24)).alloc (.cells #[.int .i64 0] 3)).alloc (.cells #[.slice a la.length cap] 24)) = W0 := ⟨_, rfl⟩
  have hsz : W0.heap.size = w.heap.size + 3 := by rw [← hW0]; simp
  rw [hW0] at bB' bR' bN hB0 ⊢
  clear hW0 bB bR
  refine wpIn_rangeFunc_ownG hro h1 (gf := 76) (lb := #[.pointer (some ⟨w.heap.size + 1 + 1, 0, none⟩)]) rfl hf3 (enters_of Try.func76 (by kernel_rfl) rfl)
    (down_stops F (n - 1) hf3 hro (by omega) (w.heap.size + 1 + 1) w.heap.size _ la W0 (by omega) (by omega) bN.cell w h (Nat.le_refl _) hB0) KpD.trans (KpD.putObj (by omega)) (Below.refl _ _) (fun _ => rfl)
    (fun pre W => ((∀ i ∈ pre, la[i.1]?.getD 0 = lb[i.1]?.getD 0) ∧ Boxed W w.heap.size 24 (.slice b lb.length capb) ∧ Boxed W (w.heap.size + 1) 3 (.int .i64 0)) ∧ Below w.heap.size w W)
    (fun c pre W => (c = .ret ∧ ∃ ini last r, pre = ini ++ [last] ∧ (∀ i ∈ ini, la[i.1]?.getD 0 = lb[i.1]?.getD 0) ∧ ((la[last.1]?.getD 0 < lb[last.1]?.getD 0 ∧ r = -1) ∨ (lb[last.1]?.getD 0 < la[last.1]?.getD 0 ∧ r = 1)) ∧ Boxed W (w.heap.size + 1) 3 (.int .i64 r)) ∧ Below w.heap.size w W)
    (OwnFrom.and (Own.from (fun s A B row hs hg hr => ⟨hs.1, hs.2.1.kept hg (fun e => by obtain ⟨o, ho, hc⟩ := hr _ e.symm; rw [hs.2.1] at ho; cases ho; cases hc), hs.2.2.kept hg (fun e => by obtain ⟨o, ho, hc⟩ := hr _ e.symm; rw [hs.2.2] at ho; cases ho; cases hc)⟩) _) (ownFrom_below (Nat.le_refl _) (by omega)))
    (fun c => OwnFrom.and (Own.from (fun s A B row hs hg hr => by obtain ⟨hc, ini, last, r, e1, e2, e3, e4⟩ := hs; exact ⟨hc, ini, last, r, e1, e2, e3, e4.kept hg (fun e => by obtain ⟨o, ho, hc⟩ := hr _ e.symm; rw [e4] at ho; cases ho; cases hc)⟩) _) (ownFrom_below (Nat.le_refl _) (by omega)))
    ⟨⟨by simp, bB', bR'⟩, hB0⟩
    (fun x => { tmps := #[.slice a la.length cap, .slice b lb.length capb, undef, .pointer (some ⟨w.heap.size, 0, none⟩), .pointer (some ⟨w.heap.size + 1, 0, none⟩), .int .i64 ((x.1 : Nat) : Int), .int .u16 ((la[x.1]?.getD 0 : Nat) : Int), .bool false, .slice a la.length cap, .int .i64 la.length, .slice b lb.length capb, .int .i64 lb.length, .bool false, .bool false, .slice a la.length cap, .int .i64 la.length, .slice b lb.length capb, .int .i64 lb.length, .bool false, .slice a la.length cap, .func (.func 76) #[] #[.pointer (some ⟨w.heap.size + 1 + 1, 0, none⟩)], .int .i64 ((x.1 : Nat) : Int), .int .u16 ((la[x.1]?.getD 0 : Nat) : Int), undef, undef, undef, undef, undef, undef, undef, undef, undef, undef, undef, undef, undef, undef], defers := [] }) ?assign ?body ?done ?stop
  case assign =>
    intro y x W K hK
    dsimp only [encs]
    gi_wp2
    exact hK
  case body =>
    rintro y pre x W ⟨⟨hz, hbB, hbR⟩, hB⟩ _
    have cB := hbB.cell
    have cR := hbR.cell
    have fR := hbR.frozen
    have hx := x.2
    have hx2 : x.1 < lb.length := by rw [← Hlen.out]; exact hx
    obtain ⟨bb, bo, rfl, hbb, hcb⟩ := k.block (by intro e; rw [e] at hx2; simp at hx2)
    have hcb1 := (hB.cell (p := ⟨bb, bo + x.1, none⟩) hbb).trans (hcb x.1 hx2)
    clear hcb kcs hcs
    obtain ⟨u, hu⟩ : ∃ u : Nat, u = la[x.1]?.getD 0 := ⟨_, rfl⟩
    rw [← hu]
    have H := Lib.hid hu
    clear hu
    obtain ⟨v, hv⟩ : ∃ v : Nat, v = lb[x.1]?.getD 0 := ⟨_, rfl⟩
    rw [← hv] at hcb1
    have Hv := Lib.hid hv
    clear hv
    obtain ⟨m, hm⟩ : ∃ m : Nat, m = x.1 := ⟨_, rfl⟩
    have Hm := Lib.hid hm
    rw [← hm] at hx hx2 hcb1 ⊢
    clear hm
    by_cases hlt : u < v
    · gi_wp2
      exact ⟨(KeepsOthers.setCell _ _ _).from _, ⟨rfl, pre, x, -1, rfl, hz, .inl ⟨by rw [← H.out, ← Hv.out]; exact hlt, rfl⟩, hbR.set _⟩, hB.setCell (p := ⟨w.heap.size + 1, 0, none⟩) (by simp) _⟩
    · by_cases hgt : v < u
      · gi_wp2
        exact ⟨(KeepsOthers.setCell _ _ _).from _, ⟨rfl, pre, x, 1, rfl, hz, .inr ⟨by rw [← H.out, ← Hv.out]; exact hgt, rfl⟩, hbR.set _⟩, hB.setCell (p := ⟨w.heap.size + 1, 0, none⟩) (by simp) _⟩
      · gi_wp2
        exact ⟨KeepsFrom.refl _ _, KpD.refl _ _ _, ⟨fun p hp => (List.mem_append.1 hp).elim (hz p) (fun e => by simp at e; subst e; rw [← H.out, ← Hv.out]; omega), hbB, hbR⟩, hB⟩
  case done =>
    rintro D ys W hD hS ⟨⟨hz, hbB, hbR⟩, hB⟩ hK
    have cR := hbR.cell
    have fR := hbR.frozen
    gi_wp2
    have hK' := (KeepsOthers.setCell W ⟨w.heap.size + 1, 0, none⟩ (.int .i64 0)).same D _ hK rfl
    have hB' := hB.setCell (p := ⟨w.heap.size + 1, 0, none⟩) (by simp) (.int .i64 0)
    refine ⟨by simp, .inl ⟨_, _, rfl, run_takeDeferred hK', ?_⟩⟩
    have hc5 := cell_kept (hbR.set (.int .i64 0)).cell (grownBy_putObj' _ D (.deferred none)) (fun r e => by cases e; exact ⟨_, hK', rfl⟩)
    have ev : cmpN (val la) (val lb) = 0 := by
      have e : la = lb := val_take_eq (fun j hj => by obtain ⟨i, hi, rfl⟩ := mem_of_all hS j hj; exact hz i hi) Hlen.out
      simp [cmpN, e]
    rw [ev]
    refine ⟨.int .i64 0, ?_, rfl, hB'.trans (belowK_b (w := w) (Nat.le_refl _) _ D _ _ (by omega) hK' rfl rfl)⟩
    simp [results, Try.f59, go_sem, hc5]
  case stop =>
    rintro D c pre W hD hS ⟨⟨rfl, ini, last, r, rfl, e2, e3, hbR⟩, hB⟩ hK
    gi_wp2
    refine ⟨by simp, .inl ⟨_, _, rfl, run_takeDeferred hK, ?_⟩⟩
    have hc5 := cell_kept hbR.cell (grownBy_putObj' _ D (.deferred none)) (fun r e => by cases e; exact ⟨_, hK, rfl⟩)
    have hx := last.2
    have hB2 := hB.trans (belowK_b (w := w) (Nat.le_refl _) W D _ (.deferred none) (by omega) hK rfl rfl)
    have hafter : ∀ j, last.1 < j → j < la.length → la[j]?.getD 0 = lb[j]?.getD 0 := fun j h1 h2 => by obtain ⟨i, hi, rfl⟩ := mem_of_after hS j h1 h2; exact e2 i hi
    have ev : cmpN (val la) (val lb) = r := by
      rcases e3 with ⟨e3, rfl⟩ | ⟨e3, rfl⟩
      · simp [cmpN, lt_of_top hla Hlen.out hx e3 hafter]
      · have := lt_of_top hlb Hlen.out.symm (by rw [← Hlen.out]; exact hx) e3 (fun j h1 h2 => (hafter j h1 (by rw [Hlen.out]; exact h2)).symm)
        have h5 : ¬ val la < val lb := by omega
        simp [cmpN, this, h5]
    rw [ev]
    refine ⟨.int .i64 r, ?_, rfl, hB2⟩
    simp [results, Try.f59, go_sem, hc5]

theorem compare_any (sa sb : Value) (la lb : List Nat) (hla : Lm la) (hlb : Lm lb) (w : World) (h : Lim w sa la) (k : Lim w sb lb) :
    Calls Try.prog 59 #[sa, sb] w fun e w' => e = .returned (.int .i64 (cmpL la lb)) ∧ Below w.heap.size w w' :=
  callsIn_wide.1 (compare_in Fence.wide 3 trivial trivial trivial rfl (Nat.le_refl _) sa sb la lb hla hlb w h k)

end Go.Proofs.Ytodmbklednehbaa
