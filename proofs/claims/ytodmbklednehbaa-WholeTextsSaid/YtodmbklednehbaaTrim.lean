/-
'trim': a slice of limbs without its leading zeros: the same slice cut shorter, or nil.
-/
import Derived.Test.YtodmbklednehbaaDown
namespace Go.Proofs.Ytodmbklednehbaa
open Go.RowKit Go.Shelf Wh
attribute [local go_sem] Oper.semAt_some

theorem Spre.last {l : List Nat} {ini : List (Ix l)} {x : Ix l} (h : Spre l (ini ++ [x])) : ini.map Subtype.val = (List.range l.length).reverse.take (l.length - (x.1 + 1)) := by
  obtain ⟨k, hk, e⟩ := h
  have hlen : ini.length + 1 = k := by have := congrArg List.length e; simp at this; omega
  obtain ⟨k', rfl⟩ : ∃ k', k = k' + 1 := ⟨ini.length, hlen.symm⟩
  rw [show k' + 1 = l.length - (l.length - (k' + 1)) from by omega, take_down (by omega)] at e
  rw [List.map_append] at e
  obtain ⟨e1, e2⟩ := List.append_inj' e (by simp)
  have e3 : x.1 = l.length - (k' + 1) := by simpa using e2
  rw [e1, e3]

/-- The indices that come after x in the walk down are those below x. -/
theorem mem_of_after {l : List Nat} {ini : List (Ix l)} {x : Ix l} (h : Spre l (ini ++ [x])) (j : Nat) (h1 : x.1 < j) (h2 : j < l.length) : ∃ i ∈ ini, i.1 = j := by
  have e := h.last
  have : j ∈ ini.map Subtype.val := by
    rw [e, List.mem_iff_getElem]
    have hx := x.2
    refine ⟨l.length - 1 - j, by simp; omega, ?_⟩
    simp
    omega
  simpa using List.mem_map.1 this

theorem mem_of_all {l : List Nat} {ys : List (Ix l)} (h : Sall l ys) (j : Nat) (h2 : j < l.length) : ∃ i ∈ ys, i.1 = j := by
  have : j ∈ ys.map Subtype.val := by rw [h]; simpa using h2
  simpa using List.mem_map.1 this

theorem val_high_zero {l : List Nat} (k : Nat) (h : ∀ j, k ≤ j → j < l.length → l[j]?.getD 0 = 0) : val l = val (l.take k) := by
  rw [val_take_drop l k]
  have : val (l.drop k) = 0 := val_zero_iff.2 fun x hx => by
    obtain ⟨i, hi, rfl⟩ := List.mem_iff_getElem.1 hx
    simp at hi
    have := h (k + i) (by omega) (by omega)
    rw [List.getElem_drop]
    rw [getD_lt_length (by omega)] at this
    exact this
  rw [this]; simp

theorem dig_of_top {l : List Nat} (hl : Lm l) {m : Nat} (hm : m < l.length) (h0 : l[m]?.getD 0 ≠ 0) (h : ∀ j, m < j → j < l.length → l[j]?.getD 0 = 0) : dig (val l) = l.take (m + 1) := by
  rw [val_high_zero (m + 1) (fun j h1 h2 => h j (by omega) h2), List.take_succ_eq_append_getElem hm]
  rw [getD_lt_length hm] at h0
  exact dig_snoc (hl.take m) (hl _ (List.getElem_mem hm)) h0

theorem dig_of_zero {l : List Nat} (h : ∀ j, j < l.length → l[j]?.getD 0 = 0) : dig (val l) = [] := by
  rw [val_high_zero 0 (fun j _ h2 => h j h2)]; simp [dig_zero]

/-- A slice that is nil, or the beginning of the slice v. -/
def Part (v v' : Value) : Prop := v' = .slice none 0 0 ∨ ∃ a n cap k, v = .slice a n cap ∧ v' = .slice a k cap ∧ 0 < k ∧ k ≤ n

/-- A slice that is nil, or lies at the head of a block from B on, which it has for itself. -/
def Fr (B : Nat) (W : World) (v : Value) : Prop :=
  v = .slice none 0 0 ∨ ∃ g n cap cur T, v = .slice (some ⟨g, 0, none⟩) n cap ∧ B ≤ g ∧ W.heap[g]? = some (.cells cur T (0, 0)) ∧ cur.size = cap

theorem Fr.mono {B B' : Nat} {W : World} {v : Value} (h : Fr B W v) (hB : B' ≤ B) : Fr B' W v := by
  rcases h with h | ⟨g, n, cap, cur, T, h1, h2, h3⟩
  · exact .inl h
  · exact .inr ⟨g, n, cap, cur, T, h1, Nat.le_trans hB h2, h3⟩
theorem Fr.below {B : Nat} {W W' : World} {v : Value} (h : Fr B W v) (hb : Below W.heap.size W W') : Fr B W' v := by
  rcases h with h | ⟨g, n, cap, cur, T, h1, h2, h3, h4⟩
  · exact .inl h
  · exact .inr ⟨g, n, cap, cur, T, h1, h2, (hb.block g (Array.getElem?_eq_some_iff.1 h3).1).trans h3, h4⟩
theorem Fr.part {B : Nat} {W : World} {v v' : Value} (h : Fr B W v) (hp : Part v v') : Fr B W v' := by
  rcases hp with hp | ⟨a, n, cap, k, e1, e2, h0, h1⟩
  · exact .inl hp
  · rcases h with h | ⟨g, n', cap', cur, T, e3, h2, h3, h4⟩
    · subst h; cases e1; omega
    · subst e1; cases e3
      exact .inr ⟨g, k, cap, cur, T, e2, h2, h3, h4⟩
theorem Fr.of_owns {W : World} {base n : Nat} {e : TypeId} {v : Value} {xs : List Value} (h : W.ownsRow base e 1 v n xs) : Fr base W v := by
  rcases h.2 with ⟨h, _⟩ | ⟨g, cap, cur, hv, hg, hh, _, _, hc, _⟩
  · exact .inl h
  · exact .inr ⟨g, n, cap, cur, e, hv, hg, hh, by omega⟩

/-- The slice value v holds the limbs l, in memory of its own from block B on. -/
def LimF (B : Nat) (W : World) (v : Value) (l : List Nat) : Prop := Lim W v l ∧ Fr B W v
theorem LimF.below {B : Nat} {W W' : World} {v : Value} {l : List Nat} (h : LimF B W v l) (hb : Below W.heap.size W W') : LimF B W' v l := ⟨h.1.below hb (Nat.le_refl _), h.2.below hb⟩
theorem LimF.mono {B B' : Nat} {W : World} {v : Value} {l : List Nat} (h : LimF B W v l) (hB : B' ≤ B) : LimF B' W v l := ⟨h.1, h.2.mono hB⟩
theorem LimF.nil (B : Nat) (W : World) : LimF B W (.slice none 0 0) [] := ⟨Lim.nil W, .inl rfl⟩

theorem Lim.take {W : World} {a : Option Addr} {n cap : Nat} {l : List Nat} (h : Lim W (.slice a n cap) l) {k : Nat} (hk : k ≤ l.length) : Lim W (.slice a k cap) (l.take k) := by
  obtain ⟨a', cap', e, h1, h2, h⟩ := h
  cases e
  refine ⟨a, cap, by simp [Nat.min_eq_left hk], by simp; omega, ⟨h2.1, by simp; omega, h2.2.2⟩, ?_⟩
  rcases h with rfl | ⟨b, off, rfl, hc⟩
  · exact .inl (by simp)
  · refine .inr ⟨b, off, rfl, fun j hj => ?_⟩
    simp at hj
    rw [hc j (by omega), List.getElem?_take_of_lt (by omega)]

set_option maxRecDepth 100000 in
set_option maxHeartbeats 2000000 in
theorem trim_in (F : Fence) (n : Nat) (hf : F.fn 72) (hf2 : F.fn 68) (hf3 : F.fn 76) (hro : F.round = none) (hn : 3 ≤ n) (sv : Value) (l : List Nat) (hl : Lm l) (w : World) (h : Lim w sv l) :
    CallsIn F n Try.prog 72 #[sv] w fun e w' => (∃ v', e = .returned v' ∧ Lim w' v' (dig (val l)) ∧ Part sv v') ∧ Below w.heap.size w w' := by
  have h1 : 1 ≤ n := by omega
  have h' := h
  obtain ⟨a, cap, rfl, hlc, ⟨hcm, hcl, hcn⟩, hcs⟩ := h'
  clear hcn
  refine callsIn_of_wp_marks Try.func72 rfl hf ?_ hro
  simp only [Try.ntmps72, List.size_toArray, List.length_cons, List.length_nil, Nat.reduceAdd, Nat.reduceSub, Array.replicate_succ, Array.replicate_zero, List.push_toArray, List.append_toArray, List.nil_append, List.cons_append]
  gi_wp2_with (gi_at_call 68; refine (down_in F (n - 1) hf2 hro _ _ _ _ rfl _).mono ?_; rintro e w' ⟨rfl, rfl⟩)
  have bL := Boxed.new w 24 (.slice a l.length cap)
  have bR := Boxed.new (w.alloc (.cells #[.slice a l.length cap] 24)) 24 (.slice none 0 0)
  have bN := Boxed.new ((w.alloc (.cells #[.slice a l.length cap] 24)).alloc (.cells #[.slice none 0 0] 24)) 24 (.slice a l.length cap)
  rw [World.size_alloc] at bR
  rw [World.size_alloc, World.size_alloc] at bN
  have hB0 : Below w.heap.size w (((w.alloc (.cells #[.slice a l.length cap] 24)).alloc (.cells #[.slice none 0 0] 24)).alloc (.cells #[.slice a l.length cap] 24)) :=
    (((Below.refl _ w).alloc (Nat.le_refl _) _).alloc (by simp) _).alloc (by simp; omega) _
  have bL' := (bL.alloc (.cells #[.slice none 0 0] 24)).alloc (.cells #[.slice a l.length cap] 24)
  have bR' := bR.alloc (.cells #[.slice a l.length cap] 24)
  obtain ⟨W0, hW0⟩ : ∃ W0, (((w.alloc (.cells #[.slice a l.length cap] 24)).alloc (.cells #[.slice none 0 0] 24)).alloc (.cells #[.slice a l.length cap] 24)) = W0 := ⟨_, rfl⟩
  have hsz : W0.heap.size = w.heap.size + 3 := by rw [← hW0]; simp
  rw [hW0] at bL' bR' bN hB0 ⊢
  clear hW0 bL bR
  refine wpIn_rangeFunc_ownG hro h1 (gf := 76) (lb := #[.pointer (some ⟨w.heap.size + 1 + 1, 0, none⟩)]) rfl hf3 (enters_of Try.func76 (by kernel_rfl) rfl)
    (down_stops F (n - 1) hf3 hro (by omega) (w.heap.size + 1 + 1) W0.heap.size _ l W0 (by omega) (Nat.le_refl _) bN.cell w h (by omega) hB0) KpD.trans (KpD.putObj (Nat.le_refl _)) (Below.refl _ _) (fun _ => rfl)
    (fun pre W => ((∀ i ∈ pre, l[i.1]?.getD 0 = 0) ∧ Boxed W w.heap.size 24 (.slice a l.length cap) ∧ Boxed W (w.heap.size + 1) 24 (.slice none 0 0)) ∧ Below w.heap.size w W)
    (fun c pre W => (c = .ret ∧ ∃ ini last, pre = ini ++ [last] ∧ (∀ i ∈ ini, l[i.1]?.getD 0 = 0) ∧ l[last.1]?.getD 0 ≠ 0 ∧ Boxed W (w.heap.size + 1) 24 (.slice a (last.1 + 1) cap)) ∧ Below w.heap.size w W)
    (OwnFrom.and (Own.from (fun s A B row hs hg hr => ⟨hs.1, hs.2.1.kept hg (fun e => by obtain ⟨o, ho, hc⟩ := hr _ e.symm; rw [hs.2.1] at ho; cases ho; cases hc), hs.2.2.kept hg (fun e => by obtain ⟨o, ho, hc⟩ := hr _ e.symm; rw [hs.2.2] at ho; cases ho; cases hc)⟩) _) (ownFrom_below (Nat.le_refl _) (by omega)))
    (fun c => OwnFrom.and (Own.from (fun s A B row hs hg hr => by obtain ⟨hc, ini, last, e1, e2, e3, e4⟩ := hs; exact ⟨hc, ini, last, e1, e2, e3, e4.kept hg (fun e => by obtain ⟨o, ho, hc⟩ := hr _ e.symm; rw [e4] at ho; cases ho; cases hc)⟩) _) (ownFrom_below (Nat.le_refl _) (by omega)))
    ⟨⟨by simp, bL', bR'⟩, hB0⟩
    (fun x => { tmps := #[.slice a l.length cap, .pointer (some ⟨w.heap.size, 0, none⟩), .pointer (some ⟨w.heap.size + 1, 0, none⟩), .int .i64 ((x.1 : Nat) : Int), .int .u16 ((l[x.1]?.getD 0 : Nat) : Int), .slice a l.length cap, .func (.func 76) #[] #[.pointer (some ⟨w.heap.size + 1 + 1, 0, none⟩)], .int .i64 ((x.1 : Nat) : Int), .int .u16 ((l[x.1]?.getD 0 : Nat) : Int), undef, undef, undef, undef, undef, undef], defers := [] }) ?assign ?body ?done ?stop
  case assign =>
    intro y x W K hK
    dsimp only [encs]
    gi_wp2
    exact hK
  case body =>
    rintro y pre x W ⟨⟨hz, hbL, hbR⟩, hB⟩ _
    have cL := hbL.cell
    have cR := hbR.cell
    have fR := hbR.frozen
    have hx := x.2
    obtain ⟨u, hu⟩ : ∃ u : Nat, u = l[x.1]?.getD 0 := ⟨_, rfl⟩
    rw [← hu]
    have H := Lib.hid hu
    clear hu
    obtain ⟨m, hm⟩ : ∃ m : Nat, m = x.1 := ⟨_, rfl⟩
    have Hm := Lib.hid hm
    rw [← hm] at hx ⊢
    clear hm
    by_cases hu0 : u = 0
    · have e0 : ((u : Int) != 0) = false := by simp [hu0]
      have H0 := Lib.hid hu0
      clear hu0
      gi_wp2
      exact ⟨KeepsFrom.refl _ _, KpD.refl _ _ _, ⟨fun p hp => (List.mem_append.1 hp).elim (hz p) (fun e => by simp at e; subst e; rw [← H.out, H0.out]), hbL, hbR⟩, hB⟩
    · have e0 : ((u : Int) != 0) = true := by simp; omega
      gi_wp2
      exact ⟨(KeepsOthers.setCell _ _ _).from _, ⟨rfl, pre, x, rfl, hz, by rw [← H.out]; exact hu0, by rw [← Hm.out]; exact hbR.set _⟩, hB.setCell (p := ⟨w.heap.size + 1, 0, none⟩) (by simp) _⟩
  case done =>
    rintro D ys W hD hS ⟨⟨hz, hbL, hbR⟩, hB⟩ hK
    have cR := hbR.cell
    have fR := hbR.frozen
    gi_wp2
    have hK' := (KeepsOthers.setCell W ⟨w.heap.size + 1, 0, none⟩ (.slice none 0 0)).same D _ hK rfl
    have hB' := hB.setCell (p := ⟨w.heap.size + 1, 0, none⟩) (by simp) (.slice none 0 0)
    refine ⟨by simp, .inl ⟨_, _, rfl, run_takeDeferred hK', ?_⟩⟩
    have hc5 := cell_kept (hbR.set (.slice none 0 0)).cell (grownBy_putObj' _ D (.deferred none)) (fun r e => by cases e; exact ⟨_, hK', rfl⟩)
    refine ⟨.slice none 0 0, ?_, ⟨_, rfl, ?_, .inl rfl⟩, hB'.trans (belowK_b (w := w) (Nat.le_refl _) _ D _ _ (by omega) hK' rfl rfl)⟩
    · simp [results, Try.f72, go_sem, hc5]
    · rw [dig_of_zero (fun j hj => by obtain ⟨i, hi, rfl⟩ := mem_of_all hS j hj; exact hz i hi)]
      exact Lim.nil _
  case stop =>
    rintro D c pre W hD hS ⟨⟨rfl, ini, last, rfl, e2, e3, hbR⟩, hB⟩ hK
    gi_wp2
    refine ⟨by simp, .inl ⟨_, _, rfl, run_takeDeferred hK, ?_⟩⟩
    have hc5 := cell_kept hbR.cell (grownBy_putObj' _ D (.deferred none)) (fun r e => by cases e; exact ⟨_, hK, rfl⟩)
    have hx := last.2
    have hB2 := hB.trans (belowK_b (w := w) (Nat.le_refl _) W D _ (.deferred none) (by omega) hK rfl rfl)
    refine ⟨.slice a (last.1 + 1) cap, ?_, ⟨_, rfl, ?_, .inr ⟨_, _, _, _, rfl, rfl, by omega, by omega⟩⟩, hB2⟩
    · simp [results, Try.f72, go_sem, hc5]
    · rw [dig_of_top hl hx e3 (fun j h1 h2 => by obtain ⟨i, hi, rfl⟩ := mem_of_after hS j h1 h2; exact e2 i hi)]
      exact (h.below hB2 (Nat.le_refl _)).take (by omega)

theorem trim_any (sv : Value) (l : List Nat) (hl : Lm l) (w : World) (h : Lim w sv l) :
    Calls Try.prog 72 #[sv] w fun e w' => (∃ v', e = .returned v' ∧ Lim w' v' (dig (val l)) ∧ Part sv v') ∧ Below w.heap.size w w' :=
  callsIn_wide.1 (trim_in Fence.wide 3 trivial trivial trivial rfl (Nat.le_refl _) sv l hl w h)

end Go.Proofs.Ytodmbklednehbaa
