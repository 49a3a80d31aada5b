/-
'Within': whether every day of a set is a day of another one.
-/
import Derived.Test.YtanlaejdibikiaaGreatCombine
namespace Go.Proofs.YtanlaejdibikiaaGreat
open Go.RowKit Go.Shelf Sp
attribute [local go_sem] Oper.semAt_some

noncomputable def withinB (a b : L) : Bool := @decide (∀ d, Mem a d → Mem b d) (Classical.propDecidable _)
theorem withinB_iff (a b : L) : withinB a b = true ↔ ∀ d, Mem a d → Mem b d := by unfold withinB; simp
theorem withinB_not (a b : L) : withinB a b = false ↔ ¬ ∀ d, Mem a d → Mem b d := by rw [Bool.eq_false_iff, ne_eq, withinB_iff]

def bad (y : Yd) : Bool := y.2.1 && !y.2.2
def Good (ys : List Yd) : Prop := ∀ y ∈ ys, bad y = false

def InW (N R : Nat) (va vb : Value) (ys : List Yd) (W : World) : Prop :=
  Good ys ∧ Boxed W R 4 (.bool false) ∧ Boxed W N 22 va ∧ Boxed W (N + 1) 22 vb
theorem inW_own (N R : Nat) (va vb : Value) : Own (InW N R va vb) := by
  intro s X Y row ⟨h1, h2, h3, h4⟩ hg hr
  exact ⟨h1, boxed_own R _ (fun (_ : List Yd) => .bool false) s X Y row h2 hg hr, boxed_own N _ (fun (_ : List Yd) => va) s X Y row h3 hg hr, boxed_own (N + 1) _ (fun (_ : List Yd) => vb) s X Y row h4 hg hr⟩
def OutW (R B : Nat) (w : World) (c : Code) (ys : List Yd) (W : World) : Prop := c = .ret ∧ ¬ Good ys ∧ Boxed W R 4 (.bool false) ∧ Below B w W
theorem outW_own (R B : Nat) (w : World) (hB : B ≤ w.heap.size) (n : Nat) (hn : B ≤ n) (c : Code) : OwnFrom n (OutW R B w c) := by
  intro s X Y row ⟨h1, h2, h3, h4⟩ hg hr
  exact ⟨h1, h2, boxed_own R _ (fun (_ : List Yd) => .bool false) s X Y row h3 hg (fun r e => (hr r e).2), ownFrom_below (β := List Yd) hB hn s X Y row h4 hg hr⟩

set_option maxRecDepth 100000 in
set_option maxHeartbeats 4000000 in
theorem Within_yes (va vb : Value) (a b : L) (ha : IsSet a) (hb : IsSet b) (w : World) (hla : Spn w va a) (hlb : Spn w vb b) :
    Calls Tryz.prog 19 #[va, vb] w (Says (.bool (withinB a b)) w) := by
  refine callsIn_wide (n := 4).1 ?_
  have hvA := fun W (hW : Below w.heap.size w W) => callsIn_wide (n := 3).2 (Valid_any va a W (hla.below hW (Nat.le_refl _)))
  have hvB := fun W (hW : Below w.heap.size w W) => callsIn_wide (n := 3).2 (Valid_any vb b W (hlb.below hW (Nat.le_refl _)))
  rw [(vldB_iff a).2 ha] at hvA
  rw [(vldB_iff b).2 hb] at hvB
  have HVA := Lib.hid hvA
  have HVB := Lib.hid hvB
  have hst := fun Ba Bb W hA hB hcA hcB hbl => changes_stops 3 (by omega) Ba Bb w.heap.size va vb a b ha hb w hla hlb (Nat.le_refl _) W hA hB hcA hcB hbl
  have HST := Lib.hid hst
  have HWI := Lib.hid (Sp.within_iff ha hb)
  obtain ⟨aa, ca, rfl, -⟩ := hla
  obtain ⟨ab, cb, rfl, -⟩ := hlb
  have hch := fun W => callsIn_wide (n := 3).2 (changes_in (.slice aa a.length ca) (.slice ab b.length cb) aa ab a.length b.length ca cb rfl rfl W)
  have HCH := Lib.hid hch
  clear hvA hvB hst ha hb hch
  refine callsIn_of_wp_marks Tryz.func19 rfl trivial ?_
  simp only [Tryz.ntmps19, List.size_toArray, List.length_cons, List.length_nil, Nat.reduceAdd, Nat.reduceSub, Array.replicate_succ, Array.replicate_zero, List.push_toArray, List.append_toArray, List.nil_append, List.cons_append]
  have hb0 := (Below.refl w.heap.size w).alloc (Nat.le_refl _) (.cells #[.bool false] 4)
  have bx0 := Boxed.new w 4 (.bool false)
  gi_wp2_with fail
  obtain ⟨W0, hW0⟩ : ∃ W, w.alloc (.cells #[.bool false] 4) = W := ⟨_, rfl⟩
  rw [hW0] at hb0 bx0 ⊢
  clear hW0
  refine ⟨trivial, (HVA.out _ hb0).mono ?_⟩
  rintro e w1 ⟨rfl, h1⟩
  replace bx0 := r_box bx0 h1
  replace hb0 := hb0.trans (h1.mono hb0.size)
  clear h1
  gi_wp2_with fail
  refine ⟨trivial, (HVB.out _ hb0).mono ?_⟩
  rintro e w2 ⟨rfl, h1⟩
  replace bx0 := r_box bx0 h1
  replace hb0 := hb0.trans (h1.mono hb0.size)
  clear h1
  gi_wp2_with fail
  refine ⟨trivial, (HCH.out _).mono ?_⟩
  rintro e w3 ⟨rfl, hw3⟩
  have bA := (Boxed.new w2 22 (.slice aa a.length ca)).alloc (.cells #[.slice ab b.length cb] 22)
  have bB := Boxed.new (w2.alloc (.cells #[.slice aa a.length ca] 22)) 22 (.slice ab b.length cb)
  simp only [World.size_alloc] at bB
  have bR := (bx0.alloc (.cells #[.slice aa a.length ca] 22)).alloc (.cells #[.slice ab b.length cb] 22)
  have hlt := bx0.lt
  have hb5 := (hb0.alloc hb0.size (.cells #[.slice aa a.length ca] 22)).alloc (by simp; have := hb0.size; omega) (.cells #[.slice ab b.length cb] 22)
  have hs3 : w3.heap.size = w2.heap.size + 2 := by rw [← hw3]; simp
  rw [hw3] at bA bB bR hb5
  clear hw3 hb0 bx0
  have HS0 := Lib.hid hs3
  clear hs3
  gi_wp2_with fail
  have hs3 := HS0.out
  obtain ⟨N, hN⟩ : ∃ N, w2.heap.size = N := ⟨_, rfl⟩
  rw [hN] at bA bB hs3 hlt ⊢
  clear hN
  have hs4 : N + 1 < w3.heap.size := by omega
  clear hs3 HS0
  refine wpIn_rangeFunc_ownH rfl (by omega) (gf := 55) (lb := #[.pointer (some ⟨N, 0, none⟩), .pointer (some ⟨N + 1, 0, none⟩)]) rfl trivial (enters_of Tryz.func55 (by kernel_rfl) rfl)
    (HST.out N (N + 1) w3 (by omega) hs4 bA.cell bB.cell hb5) KpC.trans (KpC.putObj (by have := hb5.size; omega)) (Below.refl _ _) (fun _ => rfl)
    (fun ys W => InW N w.heap.size (.slice aa a.length ca) (.slice ab b.length cb) ys W ∧ Below w.heap.size w W) (OutW w.heap.size w.heap.size w)
    (OwnFrom.and (Own.from (inW_own _ _ _ _) _) (ownFrom_below (Nat.le_refl _) (by have := hb5.size; omega))) (fun c => outW_own _ _ _ (Nat.le_refl _) _ (by have := hb5.size; omega) c)
    ⟨⟨(fun _ h => by cases h), bR, bA, bB⟩, hb5⟩
    (fun x a' W => ∃ Bh, N + 1 < Bh ∧ Bx 50 W Bh (.bool x.2.1) (.bool x.2.2) ∧ a' = { tmps := #[.slice aa a.length ca, .slice ab b.length cb, undef, undef, .pointer (some ⟨w.heap.size, 0, none⟩), undef, .pointer (some ⟨Bh, 0, none⟩), .slice aa a.length ca, .bool true, .bool false, .bool false, .slice ab b.length cb, .bool true, .bool false, .bool false, .slice aa a.length ca, .slice ab b.length cb,
      .func (.func 55) #[] #[.pointer (some ⟨N, 0, none⟩), .pointer (some ⟨N + 1, 0, none⟩)], .int .i64 x.1, .agg #[.bool x.2.1, .bool x.2.2], undef, undef, undef, undef, undef, undef, undef], defers := [] })
    (fun x a' _ W W' row ⟨Bh, h1, h2, h3⟩ hg hr => ⟨Bh, h1, (hg.block Bh h2.lt (fun e => by obtain ⟨_, o, ho, hc⟩ := hr _ e.symm; rw [show W.heap[Bh]? = _ from h2] at ho; cases ho; cases hc)).trans h2, h3⟩) ?assign ?body ?done ?stop
  case assign =>
    intro y pre x W K ⟨hI, hB⟩ hK
    dsimp only [encs]
    obtain ⟨d, p, q⟩ := x
    have HK := Lib.hid hK
    clear hK
    obtain ⟨h1, h2, h3, h4⟩ := hI
    have hN2 := h4.lt
    have HI : Hid (InW N w.heap.size (.slice aa a.length ca) (.slice ab b.length cb) pre (W.alloc (.cells #[.bool p, .bool q] 50))) := Lib.hid ⟨h1, h2.alloc _, h3.alloc _, h4.alloc _⟩
    have HBB := Lib.hid hB
    clear h1 h2 h3 h4 hB
    gi_wp2
    exact HK.out _ _ ((KeepsOthers.alloc W _).from _) (KpC.alloc _ HBB.out.size) ⟨HI.out, HBB.out.alloc HBB.out.size _⟩ ⟨W.heap.size, by omega, Bx.new _ W _ _, rfl⟩
  case body =>
    rintro y pre x a' W - - ⟨⟨hG, hR, hA, hC⟩, hB⟩ ⟨Bh, hBh, hX, rfl⟩ hlen
    obtain ⟨d, p, q⟩ := x
    have cX := hX.cells
    obtain ⟨x1, x2⟩ := cX
    have fR := hR.frozen
    have cR := hR.cell
    have HG := Lib.hid hG
    have HR := Lib.hid hR
    have HA := Lib.hid hA
    have HC := Lib.hid hC
    have HB := Lib.hid hB
    clear hG hR hA hC hB hX hlen
    have HY : Hid (∀ y, Good (pre ++ [y]) ↔ bad y = false) := Lib.hid fun y => ⟨fun h => h y (by simp), fun h z hz => (List.mem_append.1 hz).elim (HG.out z) (fun hz => by simp at hz; subst hz; exact h)⟩
    cases p with
    | false =>
      gi_wp2
      exact ⟨KeepsFrom.refl _ _, KpC.refl _ _ _ _, ⟨(HY.out _).2 rfl, HR.out, HA.out, HC.out⟩, HB.out⟩
    | true =>
      cases q with
      | true =>
        gi_wp2
        exact ⟨KeepsFrom.refl _ _, KpC.refl _ _ _ _, ⟨(HY.out _).2 rfl, HR.out, HA.out, HC.out⟩, HB.out⟩
      | false =>
        have HZ := Lib.hid (HR.out.set (.bool false))
        gi_wp2
        exact ⟨(KeepsOthers.setCell _ _ _).from _, rfl, (fun h => by have := (HY.out _).1 h; cases this), HZ.out, HB.out.setCell (Nat.le_refl _) _⟩
  case done =>
    rintro D ys W hD hS ⟨⟨hG, hR, hA, hC⟩, hB⟩ hK
    have hw : withinB a b = true := (withinB_iff a b).2 (HWI.out.2 (by rw [← show ys = chgs a b from hS]; exact hG))
    have HW := Lib.hid hw
    have fR := hR.frozen
    have cR := hR.cell
    have hsz := hb5.size
    have HR := Lib.hid (hR.set (.bool true))
    have HB := Lib.hid (hB.setCell (p := ⟨w.heap.size, 0, none⟩) (Nat.le_refl _) (.bool true))
    have HK := Lib.hid ((KeepsOthers.setCell W ⟨w.heap.size, 0, none⟩ (.bool true)).same D _ hK rfl)
    clear hw hG hA hC hR hB hS
    gi_wp2
    refine ⟨by simp, .inl ⟨_, _, rfl, run_takeDeferred HK.out, ?_⟩⟩
    have c2 := cell_kept HR.out.cell (grownBy_putObj' _ D (.deferred none)) (fun r e => by cases e; exact ⟨_, HK.out, rfl⟩)
    refine ⟨.bool true, ?_, by rw [HW.out], HB.out.trans (belowK_b (w := w) (Nat.le_refl _) _ D _ _ (by omega) HK.out rfl rfl)⟩
    simp [results, Tryz.f19, go_sem, c2]
  case stop =>
    rintro D c pre W hD hS ⟨rfl, hG, hR, hB⟩ hK
    have hw : withinB a b = false := by
      rw [withinB_not]
      intro h
      refine hG fun y hy => HWI.out.1 h y ?_
      obtain ⟨k, rfl⟩ := hS
      exact List.mem_of_mem_take hy
    have hsz := hb5.size
    have HW := Lib.hid hw
    clear hw hG hS
    gi_wp2
    refine ⟨by simp, .inl ⟨_, _, rfl, run_takeDeferred hK, ?_⟩⟩
    have c2 := cell_kept hR.cell (grownBy_putObj' _ D (.deferred none)) (fun r e => by cases e; exact ⟨_, hK, rfl⟩)
    refine ⟨.bool false, ?_, by rw [HW.out], hB.trans (belowK_b (w := w) (Nat.le_refl _) _ D _ _ (by omega) hK rfl rfl)⟩
    simp [results, Tryz.f19, go_sem, c2]


set_option maxHeartbeats 2000000 in
theorem Within_no (va vb : Value) (a b : L) (h : ¬ (IsSet a ∧ IsSet b)) (w : World) (hla : Spn w va a) (hlb : Spn w vb b) :
    Calls Tryz.prog 19 #[va, vb] w (Says (.bool false) w) := by
  have hvA := fun W (hW : Below w.heap.size w W) => Valid_any va a W (hla.below hW (Nat.le_refl _))
  have hvB := fun W (hW : Below w.heap.size w W) => Valid_any vb b W (hlb.below hW (Nat.le_refl _))
  obtain ⟨aa, ca, rfl, -⟩ := hla
  obtain ⟨ab, cb, rfl, -⟩ := hlb
  have HB0 := Lib.hid ((Below.refl w.heap.size w).alloc (Nat.le_refl _) (.cells #[.bool false] 4))
  have BX := Lib.hid (Boxed.new w 4 (.bool false))
  have hz : w.heap.size ≤ (w.alloc (.cells #[.bool false] 4)).heap.size := by simp
  by_cases ha : IsSet a
  · have hb : ¬ IsSet b := fun e => h ⟨ha, e⟩
    rw [(vldB_iff a).2 ha] at hvA
    rw [(vldB_not b).2 hb] at hvB
    have HVA := Lib.hid hvA
    have HVB := Lib.hid hvB
    clear hvA hvB ha hb h
    go_enter Tryz.func19, Tryz.ntmps19
    go_wp2_with fail
    refine (HVA.out _ HB0.out).mono ?_
    rintro e w1 ⟨rfl, h1⟩
    have hB1 := HB0.out.trans (h1.mono hz)
    have b1 := r_box BX.out h1
    clear h1
    go_wp2_with fail
    refine (HVB.out _ hB1).mono ?_
    rintro e w2 ⟨rfl, h2⟩
    have hB2 := hB1.trans (h2.mono hB1.size)
    have b2 := r_box b1 h2
    have f2 := b2.frozen
    have c2 := b2.cell
    have HR := Lib.hid (b2.set (.bool false))
    have HE := Lib.hid (hB2.setCell (p := ⟨w.heap.size, 0, none⟩) (Nat.le_refl _) (.bool false))
    clear h2 hB2 b2 b1 hB1
    go_wp2
    have c3 := HR.out.cell
    refine bodyPost_ret (v := .bool false) (by simp [results, Tryz.f19, go_sem, c3]) rfl ⟨rfl, HE.out⟩
  · rw [(vldB_not a).2 ha] at hvA
    have HVA := Lib.hid hvA
    clear hvA hvB ha h
    go_enter Tryz.func19, Tryz.ntmps19
    go_wp2_with fail
    refine (HVA.out _ HB0.out).mono ?_
    rintro e w1 ⟨rfl, h1⟩
    have hB1 := HB0.out.trans (h1.mono hz)
    have b2 := r_box BX.out h1
    have f2 := b2.frozen
    have c2 := b2.cell
    have HR := Lib.hid (b2.set (.bool false))
    have HE := Lib.hid (hB1.setCell (p := ⟨w.heap.size, 0, none⟩) (Nat.le_refl _) (.bool false))
    clear h1 hB1 b2
    go_wp2
    have c3 := HR.out.cell
    refine bodyPost_ret (v := .bool false) (by simp [results, Tryz.f19, go_sem, c3]) rfl ⟨rfl, HE.out⟩

end Go.Proofs.YtanlaejdibikiaaGreat
