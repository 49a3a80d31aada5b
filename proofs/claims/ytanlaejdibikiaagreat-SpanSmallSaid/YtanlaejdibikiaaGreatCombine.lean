/-
'combine' at each of its three closures: Union, Meet, Minus.
-/
import Derived.Test.YtanlaejdibikiaaGreatOwn
namespace Go.Proofs.YtanlaejdibikiaaGreat
open Go.RowKit Go.Shelf Sp
attribute [local go_sem] Oper.semAt_some

def opU (x y : Bool) : Bool := x || y
def opM (x y : Bool) : Bool := x && y
def opD (x y : Bool) : Bool := x && !y

theorem grown_of_below {W W' : World} (h : Below W.heap.size W W') : W.grownBy W' none := ⟨h.os, h.tape, h.output, h.size, fun k hk _ => h.block k hk⟩
theorem KpC.alloc {n₀ Ba Bb : Nat} {W : World} (o : Obj) (hn : n₀ ≤ W.heap.size) : KpC n₀ Ba Bb W (W.alloc o) :=
  ⟨(Below.refl _ _).alloc hn o, fun _ e => (World.cell?_alloc_some W _ o (by rw [e]; rfl)).trans e, fun _ e => (World.cell?_alloc_some W _ o (by rw [e]; rfl)).trans e⟩
theorem KpC.of_call {n₀ Ba Bb : Nat} {W W' : World} (h : Below W.heap.size W W') (hn : n₀ ≤ W.heap.size) : KpC n₀ Ba Bb W W' :=
  ⟨h.mono hn, fun _ e => (h.cell (lt_of_cell e)).trans e, fun _ e => (h.cell (lt_of_cell e)).trans e⟩
/-- The iterator's boxes stay. -/
theorem KpC.of_boxed {n₀ Ba Bb : Nat} {W W' : World} {t t' : TypeId} {va vb : Value} (hb : Below n₀ W W') (hA : Boxed W Ba t va) (hA' : Boxed W' Ba t va) (hB : Boxed W Bb t' vb) (hB' : Boxed W' Bb t' vb) : KpC n₀ Ba Bb W W' :=
  ⟨hb, fun u e => by rw [hA.cell] at e; rw [hA'.cell, e], fun u e => by rw [hB.cell] at e; rw [hB'.cell, e]⟩
theorem run_len (op : Bool → Bool → Bool) (ys : List Yd) : (run op ys).l.length ≤ ys.length := by
  have : ∀ (ys : List Yd) (s : St), (ys.foldl (stepC op) s).l.length ≤ s.l.length + ys.length := by
    intro ys
    induction ys with
    | nil => intro s; exact Nat.le_refl _
    | cons y t ih =>
      intro s
      have h1 := ih (stepC op s y)
      have h2 : (stepC op s y).l.length ≤ s.l.length + 1 := by unfold stepC; dsimp only; split <;> simp
      rw [List.foldl_cons, List.length_cons]
      omega
  simpa [run] using this ys ⟨[], 0, false⟩
theorem chgs_len {a b : L} (ha : IsSet a) (hb : IsSet b) : (chgs a b).length ≤ 131072 := by
  have := chg_length a b (2 * a.length + 2 * b.length) 0 0
  have := ha.length
  have := hb.length
  unfold chgs
  omega

theorem r_box {T : TypeId} {W W' : World} {B : Nat} {v : Value} (h : Boxed W B T v) (hb : Below W.heap.size W W') : Boxed W' B T v := (hb.block B h.lt).trans h

/-- A set that the call has made is handed back, without an error. -/
def Gives (l : L) (w : World) (e : Ending) (w' : World) : Prop := (∃ v, e = .returned (.tuple #[v, .int .i64 0]) ∧ w'.ownsRow w.heap.size 31 2 v l.length (cellsS l)) ∧ Below w.heap.size w w'

set_option maxHeartbeats 2000000 in
theorem combine_no (va vb : Value) (f : Nat) (a b : L) (h : ¬ (IsSet a ∧ IsSet b)) (w : World) (hla : Spn w va a) (hlb : Spn w vb b) :
    Calls Tryz.prog 38 #[va, vb, .func (.func f) #[] #[]] w (Says (.tuple #[.slice none 0 0, .int .i64 2]) w) := by
  have hvA := fun W (hW : Below w.heap.size w W) => Valid_any va a W (hla.below hW (Nat.le_refl _))
  have hvB := fun W (hW : Below w.heap.size w W) => Valid_any vb b W (hlb.below hW (Nat.le_refl _))
  obtain ⟨aa, ca, rfl, -⟩ := hla
  obtain ⟨ab, cb, rfl, -⟩ := hlb
  have HB0 := Lib.hid ((Below.refl w.heap.size w).alloc (Nat.le_refl _) (.cells #[.func (.func f) #[] #[]] 51))
  have hz : w.heap.size ≤ (w.alloc (.cells #[.func (.func f) #[] #[]] 51)).heap.size := by simp
  by_cases ha : IsSet a
  · have hb : ¬ IsSet b := fun e => h ⟨ha, e⟩
    rw [(vldB_iff a).2 ha] at hvA
    rw [(vldB_not b).2 hb] at hvB
    have HVA := Lib.hid hvA
    have HVB := Lib.hid hvB
    clear hvA hvB ha hb h
    go_enter Tryz.func38, Tryz.ntmps38
    go_wp2_with fail
    refine (HVA.out _ HB0.out).mono ?_
    rintro e w1 ⟨rfl, h1⟩
    have hB1 := HB0.out.trans (h1.mono hz)
    clear h1
    go_wp2_with fail
    refine (HVB.out _ hB1).mono ?_
    rintro e w2 ⟨rfl, h2⟩
    have hB2 := hB1.trans (h2.mono hB1.size)
    clear h2
    go_wp2
    go_ret2
    exact ⟨rfl, hB2⟩
  · rw [(vldB_not a).2 ha] at hvA
    have HVA := Lib.hid hvA
    clear hvA hvB ha h
    go_enter Tryz.func38, Tryz.ntmps38
    go_wp2_with fail
    refine (HVA.out _ HB0.out).mono ?_
    rintro e w1 ⟨rfl, h1⟩
    have hB1 := HB0.out.trans (h1.mono hz)
    clear h1
    go_wp2
    go_ret2
    exact ⟨rfl, hB1⟩

set_option maxHeartbeats 1000000 in
theorem union1_any (x y : Bool) (w : World) : Calls Tryz.prog 39 #[.agg #[.bool x, .bool y]] w (Says (.bool (opU x y)) w) := by
  cases x <;> cases y
  all_goals
    go_enter Tryz.func39, Tryz.ntmps39
    go_wp2
    go_ret
    exact ⟨rfl, (Below.refl _ _).alloc (Nat.le_refl _) _⟩

set_option maxHeartbeats 1000000 in
theorem meet1_any (x y : Bool) (w : World) : Calls Tryz.prog 40 #[.agg #[.bool x, .bool y]] w (Says (.bool (opM x y)) w) := by
  cases x <;> cases y
  all_goals
    go_enter Tryz.func40, Tryz.ntmps40
    go_wp2
    go_ret
    exact ⟨rfl, (Below.refl _ _).alloc (Nat.le_refl _) _⟩

set_option maxHeartbeats 1000000 in
theorem minus1_any (x y : Bool) (w : World) : Calls Tryz.prog 41 #[.agg #[.bool x, .bool y]] w (Says (.bool (opD x y)) w) := by
  cases x <;> cases y
  all_goals
    go_enter Tryz.func41, Tryz.ntmps41
    go_wp2
    go_ret
    exact ⟨rfl, (Below.refl _ _).alloc (Nat.le_refl _) _⟩

/-- What the rounds keep: the boxes, and what has been put together so far. -/
def InUnion (B N : Nat) (va vb : Value) (ys : List Yd) (W : World) : Prop :=
  Boxed W B 51 (.func (.func 39) #[] #[]) ∧ (∃ v, Boxed W N 22 v ∧ W.ownsRow B 31 2 v (run opU ys).l.length (cellsS (run opU ys).l) ∧ True) ∧ Boxed W (N + 1) 3 (.int .i64 (run opU ys).frm) ∧ Boxed W (N + 2) 4 (.bool (run opU ys).opn) ∧ Boxed W (N + 1 + 1 + 1) 22 va ∧ Boxed W (N + 1 + 1 + 1 + 1) 22 vb

theorem inUnion_own (B N : Nat) (va vb : Value) : Own (InUnion B N va vb) := by
  intro s X Y row ⟨h1, h2, h3, h4, h5, h6⟩ hg hr
  exact ⟨boxed_own B _ (fun (_ : List Yd) => _) s X Y row h1 hg hr, holdsRow_own B N _ _ 2 (fun s => (run opU s).l.length) (fun s => cellsS (run opU s).l) (fun _ _ => True) s X Y row h2 hg hr, boxed_own (N + 1) _ (fun s => .int .i64 (run opU s).frm) s X Y row h3 hg hr, boxed_own (N + 2) _ (fun s => .bool (run opU s).opn) s X Y row h4 hg hr, boxed_own (N + 1 + 1 + 1) _ (fun (_ : List Yd) => va) s X Y row h5 hg hr, boxed_own (N + 1 + 1 + 1 + 1) _ (fun (_ : List Yd) => vb) s X Y row h6 hg hr⟩

set_option maxRecDepth 100000 in
set_option maxHeartbeats 4000000 in
theorem combine_Union (va vb : Value) (a b : L) (ha : IsSet a) (hb : IsSet b) (w : World) (hla : Spn w va a) (hlb : Spn w vb b) :
    Calls Tryz.prog 38 #[va, vb, .func (.func 39) #[] #[]] w (fun e w' => (∃ v, e = .returned (.tuple #[v, .int .i64 0]) ∧ w'.ownsRow w.heap.size 31 2 v (comb opU a b).length (cellsS (comb opU a b))) ∧ Below w.heap.size w w') := by
  refine callsIn_wide (n := 4).1 ?_
  have hvA := fun W (hW : Below w.heap.size w W) => callsIn_wide (n := 3).2 (Valid_any va a W (hla.below hW (Nat.le_refl _)))
  have hvB := fun W (hW : Below w.heap.size w W) => callsIn_wide (n := 3).2 (Valid_any vb b W (hlb.below hW (Nat.le_refl _)))
  rw [(vldB_iff a).2 ha] at hvA
  rw [(vldB_iff b).2 hb] at hvB
  have HVA := Lib.hid hvA
  have HVB := Lib.hid hvB
  have hst := fun Ba Bb W hA hB hcA hcB hbl => changes_stops 3 (by omega) Ba Bb w.heap.size va vb a b ha hb w hla hlb (Nat.le_refl _) W hA hB hcA hcB hbl
  have HST := Lib.hid hst
  have HA := Lib.hid ha
  have HB := Lib.hid hb
  obtain ⟨aa, ca, rfl, -⟩ := hla
  obtain ⟨ab, cb, rfl, -⟩ := hlb
  have hch := fun W => callsIn_wide (n := 3).2 (changes_in (.slice aa a.length ca) (.slice ab b.length cb) aa ab a.length b.length ca cb rfl rfl W)
  have HCH := Lib.hid hch
  clear hvA hvB hst ha hb hch
  obtain ⟨i0, hi, hz0, hz1, hz2⟩ := info_parts Tryz.infoS
  refine callsIn_of_wp_marks Tryz.func38 rfl trivial ?_
  simp only [Tryz.ntmps38, List.size_toArray, List.length_cons, List.length_nil, Nat.reduceAdd, Nat.reduceSub, Array.replicate_succ, Array.replicate_zero, List.push_toArray, List.append_toArray, List.nil_append, List.cons_append]
  have hb0 := (Below.refl w.heap.size w).alloc (Nat.le_refl _) (.cells #[.func (.func 39) #[] #[]] 51)
  have bx0 := Boxed.new w 51 (.func (.func 39) #[] #[])
  gi_wp2_with fail
  obtain ⟨W0, hW0⟩ : ∃ W, w.alloc (.cells #[.func (.func 39) #[] #[]] 51) = W := ⟨_, rfl⟩
  rw [hW0] at hb0 bx0 ⊢
  clear hW0
  refine ⟨trivial, (HVA.out _ hb0).mono ?_⟩
  rintro e w1 ⟨rfl, h1⟩
  replace bx0 := r_box bx0 h1
  replace hb0 := hb0.trans (h1.mono hb0.size)
  clear h1
  gi_wp2_with fail
  refine ⟨trivial, (HVB.out _ hb0).mono ?_⟩
  rintro e w2 ⟨rfl, h1⟩
  replace bx0 := r_box bx0 h1
  replace hb0 := hb0.trans (h1.mono hb0.size)
  clear h1
  gi_wp2_with fail
  refine ⟨trivial, (HCH.out _).mono ?_⟩
  rintro e w3 ⟨rfl, hw3⟩
  have bL := Boxed.new w2 22 (.slice none 0 0)
  have bF := Boxed.new (w2.alloc (.cells #[.slice none 0 0] 22)) 3 (.int .i64 0)
  have bO := Boxed.new ((w2.alloc (.cells #[.slice none 0 0] 22)).alloc (.cells #[.int .i64 0] 3)) 4 (.bool false)
  have bA := Boxed.new (((w2.alloc (.cells #[.slice none 0 0] 22)).alloc (.cells #[.int .i64 0] 3)).alloc (.cells #[.bool false] 4)) 22 (.slice aa a.length ca)
  have bB := Boxed.new ((((w2.alloc (.cells #[.slice none 0 0] 22)).alloc (.cells #[.int .i64 0] 3)).alloc (.cells #[.bool false] 4)).alloc (.cells #[.slice aa a.length ca] 22)) 22 (.slice ab b.length cb)
  simp only [World.size_alloc] at bF bO bA bB
  replace bL := (((bL.alloc (.cells #[.int .i64 0] 3)).alloc (.cells #[.bool false] 4)).alloc (.cells #[.slice aa a.length ca] 22)).alloc (.cells #[.slice ab b.length cb] 22)
  replace bF := ((bF.alloc (.cells #[.bool false] 4)).alloc (.cells #[.slice aa a.length ca] 22)).alloc (.cells #[.slice ab b.length cb] 22)
  replace bO := (bO.alloc (.cells #[.slice aa a.length ca] 22)).alloc (.cells #[.slice ab b.length cb] 22)
  replace bA := bA.alloc (.cells #[.slice ab b.length cb] 22)
  have bW := ((((bx0.alloc (.cells #[.slice none 0 0] 22)).alloc (.cells #[.int .i64 0] 3)).alloc (.cells #[.bool false] 4)).alloc (.cells #[.slice aa a.length ca] 22)).alloc (.cells #[.slice ab b.length cb] 22)
  have hlt := bx0.lt
  have hb5 := hb0.trans ((((((Below.refl w2.heap.size w2).alloc (Nat.le_refl _) (.cells #[.slice none 0 0] 22)).alloc (by simp) (.cells #[.int .i64 0] 3)).alloc (by simp; omega) (.cells #[.bool false] 4)).alloc (by simp; omega) (.cells #[.slice aa a.length ca] 22)).alloc (by simp; omega) (.cells #[.slice ab b.length cb] 22) |>.mono hb0.size)
  have hs3 : w3.heap.size = w2.heap.size + 5 := by rw [← hw3]; simp
  rw [hw3] at bL bF bO bA bB bW hb5
  clear hw3 hb0 bx0
  have HS0 := Lib.hid hs3
  clear hs3
  gi_wp2_with fail
  have hs3 := HS0.out
  obtain ⟨N, hN⟩ : ∃ N, w2.heap.size = N := ⟨_, rfl⟩
  rw [hN] at bL bF bO bA bB hs3 hlt ⊢
  clear hN
  have hs4 : N + 1 + 1 + 1 + 1 < w3.heap.size := by omega
  clear hs3 HS0
  refine wpIn_rangeFunc_ownH rfl (by omega) (gf := 55) (lb := #[.pointer (some ⟨N + 1 + 1 + 1, 0, none⟩), .pointer (some ⟨N + 1 + 1 + 1 + 1, 0, none⟩)]) rfl trivial (enters_of Tryz.func55 (by kernel_rfl) rfl)
    (HST.out (N + 1 + 1 + 1) (N + 1 + 1 + 1 + 1) w3 (by omega) hs4 bA.cell bB.cell hb5) KpC.trans (KpC.putObj (by have := hb5.size; omega)) (Below.refl _ _) (fun _ => rfl)
    (fun ys W => InUnion w.heap.size N (.slice aa a.length ca) (.slice ab b.length cb) ys W ∧ Below w.heap.size w W) (fun _ _ _ => False)
    (OwnFrom.and (Own.from (inUnion_own _ _ _ _) _) (ownFrom_below (Nat.le_refl _) (by have := hb5.size; omega))) (fun _ _ _ _ _ hs _ _ => hs)
    ⟨⟨bW, ⟨_, bL, World.ownsRow_nil _ _ _ _, trivial⟩, bF, bO, bA, bB⟩, hb5⟩
    (fun x a' W => ∃ Bh, N + 1 + 1 < Bh ∧ Bx 50 W Bh (.bool x.2.1) (.bool x.2.2) ∧ a' = { tmps := #[.slice aa a.length ca, .slice ab b.length cb, .func (.func 39) #[] #[], undef, undef, .pointer (some ⟨w.heap.size, 0, none⟩), .slice none 0 0, .int .i64 0, .pointer (some ⟨N, 0, none⟩), .pointer (some ⟨N + 1, 0, none⟩), .pointer (some ⟨N + 1 + 1, 0, none⟩), .int .i64 x.1, .pointer (some ⟨Bh, 0, none⟩), undef, .slice aa a.length ca, .bool true, .bool false, .bool false, .slice ab b.length cb, .bool true, .bool false, .bool false, .slice aa a.length ca, .slice ab b.length cb,
      .func (.func 55) #[] #[.pointer (some ⟨N + 1 + 1 + 1, 0, none⟩), .pointer (some ⟨N + 1 + 1 + 1 + 1, 0, none⟩)], .int .i64 x.1, .agg #[.bool x.2.1, .bool x.2.2], undef, undef, undef, undef, undef, undef, undef, undef, undef, undef, undef, undef, undef, undef, undef, undef, undef, undef, undef, undef, undef, undef], defers := [] })
    (fun x a' _ W W' row ⟨Bh, h1, h2, h3⟩ hg hr => ⟨Bh, h1, (hg.block Bh h2.lt (fun e => by obtain ⟨_, o, ho, hc⟩ := hr _ e.symm; rw [show W.heap[Bh]? = _ from h2] at ho; cases ho; cases hc)).trans h2, h3⟩) ?assign ?body ?done ?stop
  case assign =>
    intro y pre x W K ⟨hI, hB⟩ hK
    dsimp only [encs]
    obtain ⟨d, p, q⟩ := x
    have HK := Lib.hid hK
    clear hK
    obtain ⟨h1, ⟨v, h2, h3, -⟩, h4, h5, h6, h7⟩ := hI
    have hN2 := h5.lt
    have HI : Hid (InUnion w.heap.size N (.slice aa a.length ca) (.slice ab b.length cb) pre (W.alloc (.cells #[.bool p, .bool q] 50))) := Lib.hid ⟨h1.alloc _, ⟨v, h2.alloc _, h3.alloc _, trivial⟩, h4.alloc _, h5.alloc _, h6.alloc _, h7.alloc _⟩
    have HBB := Lib.hid hB
    clear h1 h2 h3 h4 h5 h6 h7 hB
    gi_wp2
    exact HK.out _ _ ((KeepsOthers.alloc W _).from _) (KpC.alloc _ HBB.out.size) ⟨HI.out, HBB.out.alloc HBB.out.size _⟩ ⟨W.heap.size, by omega, Bx.new _ W _ _, rfl⟩
  case body =>
    rintro y pre x a' W - - ⟨⟨hW, ⟨v, hL, hown, -⟩, hF, hO, hA, hC⟩, hB⟩ ⟨Bh, hBh, hX, rfl⟩ hlen
    obtain ⟨d, p, q⟩ := x
    have HSN := Lib.hid (run_snoc opU pre (d, p, q))
    have hl2 := run_len opU pre
    have hl3 := chgs_len HA.out HB.out
    obtain ⟨s, hs⟩ : ∃ s, s = run opU pre := ⟨_, rfl⟩
    rw [← hs] at hown hF hO hl2 HSN
    clear hs
    obtain ⟨ls, f, o⟩ := s
    dsimp only at hown hF hO hl2
    have hl4 : ls.length ≤ 131072 := by omega
    clear hl2 hl3 hlen
    have cW := hW.cell
    have cX := hX.cells
    obtain ⟨x1, x2⟩ := cX
    gi_wp2_with fail
    refine ⟨trivial, (CallsIn.inRound y (callsIn_wide.2 (union1_any p q W))).mono ?_⟩
    rintro e w1 ⟨rfl, h1⟩
    replace hW := r_box hW h1
    replace hL := r_box hL h1
    replace hF := r_box hF h1
    have HA0 := Lib.hid hA
    have HC0 := Lib.hid hC
    replace hO := r_box hO h1
    replace hA := r_box hA h1
    replace hC := r_box hC h1
    replace hown := hown.kept (grown_of_below h1) (by cases v.ownBlock <;> simp)
    have HKF := Lib.hid ((keeps_of_below h1).from w3.heap.size)
    have HBK := Lib.hid (h1.mono hB.size)
    replace hB := hB.trans (h1.mono hB.size)
    clear h1 cW x1 x2 hX
    obtain ⟨wn, hwn⟩ : ∃ r, r = opU p q := ⟨_, rfl⟩
    rw [← hwn]
    have HWN := Lib.hid hwn
    clear hwn
    have cL := hL.cell
    have cF := hF.cell
    have cO := hO.cell
    have fL := hL.frozen
    have fF := hF.frozen
    have fO := hO.frozen
    have HW := Lib.hid hW
    have HL := Lib.hid hL
    have HF := Lib.hid hF
    have HO := Lib.hid hO
    have HAA := Lib.hid hA
    have HCC := Lib.hid hC
    have HOW := Lib.hid hown
    have HBE := Lib.hid hB
    clear hW hL hF hO hown hB hA hC
    cases o <;> cases wn
    · have HS : Hid (run opU (pre ++ [(d, p, q)]) = ⟨ls, f, false⟩) := Lib.hid (by rw [HSN.out]; simp [stepC, ← HWN.out])
      have o1 := HOW.out.kept (grownBy_setCell' w1 (N + 1 + 1) (.bool false)) (.inr (HO.out.not_row (by decide) HOW.out).symm)
      have xW1 := HW.out.kept (grownBy_setCell' w1 (N + 1 + 1) (.bool false)) (by simp <;> omega)
      have xL1 := HL.out.kept (grownBy_setCell' w1 (N + 1 + 1) (.bool false)) (by simp <;> omega)
      have xF1 := HF.out.kept (grownBy_setCell' w1 (N + 1 + 1) (.bool false)) (by simp <;> omega)
      have xO1 := Boxed.set (.bool false) HO.out
      have xA1 := HAA.out.kept (grownBy_setCell' w1 (N + 1 + 1) (.bool false)) (by simp <;> omega)
      have xC1 := HCC.out.kept (grownBy_setCell' w1 (N + 1 + 1) (.bool false)) (by simp <;> omega)
      have l1 := HBE.out.setCell (p := ⟨N + 1 + 1, 0, none⟩) (by simp <;> omega) (.bool false)
      have m1 := HBK.out.setCell (p := ⟨N + 1 + 1, 0, none⟩) (by simp <;> omega) (.bool false)
      have k1 := HKF.out.trans ((KeepsOthers.setCell (w1) ⟨N + 1 + 1, 0, none⟩ (.bool false)).from w3.heap.size)
      have HZ : Hid (KeepsFrom w3.heap.size W (w1.setCell ⟨N + 1 + 1, 0, none⟩ (.bool false)) ∧ KpC w.heap.size (N + 1 + 1 + 1) (N + 1 + 1 + 1 + 1) W (w1.setCell ⟨N + 1 + 1, 0, none⟩ (.bool false)) ∧ InUnion w.heap.size N (.slice aa a.length ca) (.slice ab b.length cb) (pre ++ [(d, p, q)]) (w1.setCell ⟨N + 1 + 1, 0, none⟩ (.bool false)) ∧ Below w.heap.size w (w1.setCell ⟨N + 1 + 1, 0, none⟩ (.bool false))) := Lib.hid ⟨k1, KpC.of_boxed m1 HA0.out xA1 HC0.out xC1, by unfold InUnion; rw [HS.out]; exact ⟨xW1, ⟨v, xL1, o1, trivial⟩, xF1, xO1, xA1, xC1⟩, l1⟩
      clear xW1 xL1 xF1 xO1 xA1 xC1 o1 l1 m1 k1
      gi_wp2
      exact HZ.out
    · have HS : Hid (run opU (pre ++ [(d, p, q)]) = ⟨ls, d, true⟩) := Lib.hid (by rw [HSN.out]; simp [stepC, ← HWN.out])
      have o1 := HOW.out.kept (grownBy_setCell' w1 (N + 1) (.int .i64 d)) (.inr (HF.out.not_row (by decide) HOW.out).symm)
      have xW1 := HW.out.kept (grownBy_setCell' w1 (N + 1) (.int .i64 d)) (by simp <;> omega)
      have xL1 := HL.out.kept (grownBy_setCell' w1 (N + 1) (.int .i64 d)) (by simp <;> omega)
      have xF1 := Boxed.set (.int .i64 d) HF.out
      have xO1 := HO.out.kept (grownBy_setCell' w1 (N + 1) (.int .i64 d)) (by simp <;> omega)
      have xA1 := HAA.out.kept (grownBy_setCell' w1 (N + 1) (.int .i64 d)) (by simp <;> omega)
      have xC1 := HCC.out.kept (grownBy_setCell' w1 (N + 1) (.int .i64 d)) (by simp <;> omega)
      have l1 := HBE.out.setCell (p := ⟨N + 1, 0, none⟩) (by simp <;> omega) (.int .i64 d)
      have m1 := HBK.out.setCell (p := ⟨N + 1, 0, none⟩) (by simp <;> omega) (.int .i64 d)
      have k1 := HKF.out.trans ((KeepsOthers.setCell (w1) ⟨N + 1, 0, none⟩ (.int .i64 d)).from w3.heap.size)
      have o2 := o1.kept (grownBy_setCell' (w1.setCell ⟨N + 1, 0, none⟩ (.int .i64 d)) (N + 1 + 1) (.bool true)) (.inr (xO1.not_row (by decide) o1).symm)
      have xW2 := xW1.kept (grownBy_setCell' (w1.setCell ⟨N + 1, 0, none⟩ (.int .i64 d)) (N + 1 + 1) (.bool true)) (by simp <;> omega)
      have xL2 := xL1.kept (grownBy_setCell' (w1.setCell ⟨N + 1, 0, none⟩ (.int .i64 d)) (N + 1 + 1) (.bool true)) (by simp <;> omega)
      have xF2 := xF1.kept (grownBy_setCell' (w1.setCell ⟨N + 1, 0, none⟩ (.int .i64 d)) (N + 1 + 1) (.bool true)) (by simp <;> omega)
      have xO2 := Boxed.set (.bool true) xO1
      have xA2 := xA1.kept (grownBy_setCell' (w1.setCell ⟨N + 1, 0, none⟩ (.int .i64 d)) (N + 1 + 1) (.bool true)) (by simp <;> omega)
      have xC2 := xC1.kept (grownBy_setCell' (w1.setCell ⟨N + 1, 0, none⟩ (.int .i64 d)) (N + 1 + 1) (.bool true)) (by simp <;> omega)
      have l2 := l1.setCell (p := ⟨N + 1 + 1, 0, none⟩) (by simp <;> omega) (.bool true)
      have m2 := m1.setCell (p := ⟨N + 1 + 1, 0, none⟩) (by simp <;> omega) (.bool true)
      have k2 := k1.trans ((KeepsOthers.setCell ((w1.setCell ⟨N + 1, 0, none⟩ (.int .i64 d))) ⟨N + 1 + 1, 0, none⟩ (.bool true)).from w3.heap.size)
      have HZ : Hid (KeepsFrom w3.heap.size W ((w1.setCell ⟨N + 1, 0, none⟩ (.int .i64 d)).setCell ⟨N + 1 + 1, 0, none⟩ (.bool true)) ∧ KpC w.heap.size (N + 1 + 1 + 1) (N + 1 + 1 + 1 + 1) W ((w1.setCell ⟨N + 1, 0, none⟩ (.int .i64 d)).setCell ⟨N + 1 + 1, 0, none⟩ (.bool true)) ∧ InUnion w.heap.size N (.slice aa a.length ca) (.slice ab b.length cb) (pre ++ [(d, p, q)]) ((w1.setCell ⟨N + 1, 0, none⟩ (.int .i64 d)).setCell ⟨N + 1 + 1, 0, none⟩ (.bool true)) ∧ Below w.heap.size w ((w1.setCell ⟨N + 1, 0, none⟩ (.int .i64 d)).setCell ⟨N + 1 + 1, 0, none⟩ (.bool true))) := Lib.hid ⟨k2, KpC.of_boxed m2 HA0.out xA2 HC0.out xC2, by unfold InUnion; rw [HS.out]; exact ⟨xW2, ⟨v, xL2, o2, trivial⟩, xF2, xO2, xA2, xC2⟩, l2⟩
      clear xW1 xL1 xF1 xO1 xA1 xC1 o1 l1 m1 k1
      clear xW2 xL2 xF2 xO2 xA2 xC2 o2 l2 m2 k2
      gi_wp2
      exact HZ.out
    · have HS : Hid (run opU (pre ++ [(d, p, q)]) = ⟨ls ++ [(f, d)], f, false⟩) := Lib.hid (by rw [HSN.out]; simp [stepC, ← HWN.out])
      have hB2 := HBE.out.size
      have hL2 := HL.out
      have hown2 := HOW.out
      gi_wp2_with (gi_at_builtin; refine wpListIn_append_own _ rfl _ _ 22 rfl w.heap.size 31 i0 (.agg #[.int .i64 0, .int .i64 0]) 2 16 Tryz.underlying22 hi hz0 hz1 hz2 rfl (by decide) _ _ _ rfl (hown2.alloc _) ⟨w1.heap.size, 0, none⟩ 1 1 [.int .i64 f, .int .i64 d] rfl rfl (cell_two_new _ _ _ _) (by simp [Value.oneCell']) (by unfold maxLen; omega) (by omega) (by simp; omega) ?_; intro v' w4 hown' hgrow _; obtain ⟨g', cap', rfl⟩ := ownsRow_succ hown'; obtain ⟨hv1, hv3, hr3, hk3, hb3⟩ := hL2.appended (by decide) hown2 hB2 (by omega) hown' hgrow; have hO4 := (HO.out.alloc _).kept hgrow (HO.out.not_row (by decide) hown2); have cv3 := hv1.cell; have fv3 := hv1.frozen; have cO4 := hO4.cell; have fO4 := hO4.frozen)
      obtain ⟨V, hV⟩ : ∃ V, Value.slice (some ⟨g', 0, none⟩) (ls.length + 1) cap' = V := ⟨_, rfl⟩
      rw [hV] at hv3 hr3 hk3 hb3 ⊢
      have c4 : ∀ {B : Nat} {t : TypeId} {u : Value}, Boxed w1 B t u → ¬ t = 31 → B ≠ N → Boxed (w4.setCell ⟨N, 0, none⟩ V) B t u := fun h h1 h2 => ((h.alloc _).kept hgrow (h.not_row h1 hown2)).kept (grownBy_setCell' w4 N V) (fun e => h2 (Option.some.inj e))
      have xW := c4 HW.out (by decide) (by omega)
      have xF := c4 HF.out (by decide) (by omega)
      have xO := c4 HO.out (by decide) (by omega)
      have xA := c4 HAA.out (by decide) (by omega)
      have xC := c4 HCC.out (by decide) (by omega)
      have g2 := grownBy_setCell' (w4.setCell ⟨N, 0, none⟩ V) (N + 1 + 1) (.bool false)
      refine ⟨(HKF.out.trans (hk3.from _)).trans ((KeepsOthers.setCell _ ⟨N + 1 + 1, 0, none⟩ (.bool false)).from _), KpC.of_boxed ((HBK.out.trans hb3).setCell (by simp <;> omega) _) HA0.out (xA.kept g2 (by simp <;> omega)) HC0.out (xC.kept g2 (by simp <;> omega)), ?_, (HBE.out.trans hb3).setCell (by simp <;> omega) _⟩
      unfold InUnion
      rw [HS.out]
      exact ⟨xW.kept g2 (by simp <;> omega), ⟨_, hv3.kept g2 (by simp <;> omega), by rw [cellsS_append, List.length_append]; exact hr3.kept g2 (.inr (xO.not_row (by decide) hr3).symm), trivial⟩, xF.kept g2 (by simp <;> omega), xO.set _, xA.kept g2 (by simp <;> omega), xC.kept g2 (by simp <;> omega)⟩
    · have HS : Hid (run opU (pre ++ [(d, p, q)]) = ⟨ls, f, true⟩) := Lib.hid (by rw [HSN.out]; simp [stepC, ← HWN.out])
      have o1 := HOW.out.kept (grownBy_setCell' w1 (N + 1 + 1) (.bool true)) (.inr (HO.out.not_row (by decide) HOW.out).symm)
      have xW1 := HW.out.kept (grownBy_setCell' w1 (N + 1 + 1) (.bool true)) (by simp <;> omega)
      have xL1 := HL.out.kept (grownBy_setCell' w1 (N + 1 + 1) (.bool true)) (by simp <;> omega)
      have xF1 := HF.out.kept (grownBy_setCell' w1 (N + 1 + 1) (.bool true)) (by simp <;> omega)
      have xO1 := Boxed.set (.bool true) HO.out
      have xA1 := HAA.out.kept (grownBy_setCell' w1 (N + 1 + 1) (.bool true)) (by simp <;> omega)
      have xC1 := HCC.out.kept (grownBy_setCell' w1 (N + 1 + 1) (.bool true)) (by simp <;> omega)
      have l1 := HBE.out.setCell (p := ⟨N + 1 + 1, 0, none⟩) (by simp <;> omega) (.bool true)
      have m1 := HBK.out.setCell (p := ⟨N + 1 + 1, 0, none⟩) (by simp <;> omega) (.bool true)
      have k1 := HKF.out.trans ((KeepsOthers.setCell (w1) ⟨N + 1 + 1, 0, none⟩ (.bool true)).from w3.heap.size)
      have HZ : Hid (KeepsFrom w3.heap.size W (w1.setCell ⟨N + 1 + 1, 0, none⟩ (.bool true)) ∧ KpC w.heap.size (N + 1 + 1 + 1) (N + 1 + 1 + 1 + 1) W (w1.setCell ⟨N + 1 + 1, 0, none⟩ (.bool true)) ∧ InUnion w.heap.size N (.slice aa a.length ca) (.slice ab b.length cb) (pre ++ [(d, p, q)]) (w1.setCell ⟨N + 1 + 1, 0, none⟩ (.bool true)) ∧ Below w.heap.size w (w1.setCell ⟨N + 1 + 1, 0, none⟩ (.bool true))) := Lib.hid ⟨k1, KpC.of_boxed m1 HA0.out xA1 HC0.out xC1, by unfold InUnion; rw [HS.out]; exact ⟨xW1, ⟨v, xL1, o1, trivial⟩, xF1, xO1, xA1, xC1⟩, l1⟩
      clear xW1 xL1 xF1 xO1 xA1 xC1 o1 l1 m1 k1
      gi_wp2
      exact HZ.out
  case done =>
    rintro D ys W hD hS ⟨⟨hW, ⟨v, hL, hown, -⟩, hF, hO, hA, hC⟩, hB⟩ hK
    have hc : (run opU ys).l = comb opU a b := by rw [show ys = chgs a b from hS]; rfl
    rw [hc] at hown
    have cL := hL.cell
    have HOWN := Lib.hid hown
    clear hown hc hS hW hF hO hA hC
    have hsz := hb5.size
    gi_wp2
    refine ⟨by simp, .inl ⟨_, _, rfl, run_takeDeferred hK, ?_⟩⟩
    refine ⟨_, results_tmp2 rfl _ _ _, ⟨v, rfl, ownsRow_putObj HOWN.out _ hK rfl⟩, hB.trans (belowK_b (w := w) (Nat.le_refl _) W D _ _ (by omega) hK rfl rfl)⟩
  case stop =>
    rintro D c pre W _ _ h _
    exact h.elim

/-- A set that the call has made, with the days that are wanted. -/
theorem Union_ok (va vb : Value) (a b : L) (ha : IsSet a) (hb : IsSet b) (w : World) (hla : Spn w va a) (hlb : Spn w vb b) :
    Calls Tryz.prog 14 #[va, vb] w (Gives (comb opU a b) w) := by
  have HC := Lib.hid (combine_Union va vb a b ha hb w hla hlb)
  obtain ⟨aa, ca, rfl, -⟩ := hla
  obtain ⟨ab, cb, rfl, -⟩ := hlb
  clear ha hb
  go_enter Tryz.func14, Tryz.ntmps14
  go_wp2_with fail
  refine HC.out.mono ?_
  rintro e w1 ⟨⟨v, rfl, hown⟩, hb1⟩
  have HO := Lib.hid hown
  clear hown
  go_wp2
  go_ret2
  exact ⟨⟨v, rfl, HO.out⟩, hb1⟩
theorem Union_no (va vb : Value) (a b : L) (h : ¬ (IsSet a ∧ IsSet b)) (w : World) (hla : Spn w va a) (hlb : Spn w vb b) :
    Calls Tryz.prog 14 #[va, vb] w (Says (.tuple #[.slice none 0 0, .int .i64 2]) w) := by
  have HC := Lib.hid (combine_no va vb 39 a b h w hla hlb)
  obtain ⟨aa, ca, rfl, -⟩ := hla
  obtain ⟨ab, cb, rfl, -⟩ := hlb
  clear h
  go_enter Tryz.func14, Tryz.ntmps14
  go_wp2_with fail
  refine HC.out.mono ?_
  rintro e w1 ⟨rfl, hb1⟩
  go_wp2
  go_ret2
  exact ⟨rfl, hb1⟩
/-- What the rounds keep: the boxes, and what has been put together so far. -/
def InMeet (B N : Nat) (va vb : Value) (ys : List Yd) (W : World) : Prop :=
  Boxed W B 51 (.func (.func 40) #[] #[]) ∧ (∃ v, Boxed W N 22 v ∧ W.ownsRow B 31 2 v (run opM ys).l.length (cellsS (run opM ys).l) ∧ True) ∧ Boxed W (N + 1) 3 (.int .i64 (run opM ys).frm) ∧ Boxed W (N + 2) 4 (.bool (run opM ys).opn) ∧ Boxed W (N + 1 + 1 + 1) 22 va ∧ Boxed W (N + 1 + 1 + 1 + 1) 22 vb

theorem inMeet_own (B N : Nat) (va vb : Value) : Own (InMeet B N va vb) := by
  intro s X Y row ⟨h1, h2, h3, h4, h5, h6⟩ hg hr
  exact ⟨boxed_own B _ (fun (_ : List Yd) => _) s X Y row h1 hg hr, holdsRow_own B N _ _ 2 (fun s => (run opM s).l.length) (fun s => cellsS (run opM s).l) (fun _ _ => True) s X Y row h2 hg hr, boxed_own (N + 1) _ (fun s => .int .i64 (run opM s).frm) s X Y row h3 hg hr, boxed_own (N + 2) _ (fun s => .bool (run opM s).opn) s X Y row h4 hg hr, boxed_own (N + 1 + 1 + 1) _ (fun (_ : List Yd) => va) s X Y row h5 hg hr, boxed_own (N + 1 + 1 + 1 + 1) _ (fun (_ : List Yd) => vb) s X Y row h6 hg hr⟩

set_option maxRecDepth 100000 in
set_option maxHeartbeats 4000000 in
theorem combine_Meet (va vb : Value) (a b : L) (ha : IsSet a) (hb : IsSet b) (w : World) (hla : Spn w va a) (hlb : Spn w vb b) :
    Calls Tryz.prog 38 #[va, vb, .func (.func 40) #[] #[]] w (fun e w' => (∃ v, e = .returned (.tuple #[v, .int .i64 0]) ∧ w'.ownsRow w.heap.size 31 2 v (comb opM a b).length (cellsS (comb opM a b))) ∧ Below w.heap.size w w') := by
  refine callsIn_wide (n := 4).1 ?_
  have hvA := fun W (hW : Below w.heap.size w W) => callsIn_wide (n := 3).2 (Valid_any va a W (hla.below hW (Nat.le_refl _)))
  have hvB := fun W (hW : Below w.heap.size w W) => callsIn_wide (n := 3).2 (Valid_any vb b W (hlb.below hW (Nat.le_refl _)))
  rw [(vldB_iff a).2 ha] at hvA
  rw [(vldB_iff b).2 hb] at hvB
  have HVA := Lib.hid hvA
  have HVB := Lib.hid hvB
  have hst := fun Ba Bb W hA hB hcA hcB hbl => changes_stops 3 (by omega) Ba Bb w.heap.size va vb a b ha hb w hla hlb (Nat.le_refl _) W hA hB hcA hcB hbl
  have HST := Lib.hid hst
  have HA := Lib.hid ha
  have HB := Lib.hid hb
  obtain ⟨aa, ca, rfl, -⟩ := hla
  obtain ⟨ab, cb, rfl, -⟩ := hlb
  have hch := fun W => callsIn_wide (n := 3).2 (changes_in (.slice aa a.length ca) (.slice ab b.length cb) aa ab a.length b.length ca cb rfl rfl W)
  have HCH := Lib.hid hch
  clear hvA hvB hst ha hb hch
  obtain ⟨i0, hi, hz0, hz1, hz2⟩ := info_parts Tryz.infoS
  refine callsIn_of_wp_marks Tryz.func38 rfl trivial ?_
  simp only [Tryz.ntmps38, List.size_toArray, List.length_cons, List.length_nil, Nat.reduceAdd, Nat.reduceSub, Array.replicate_succ, Array.replicate_zero, List.push_toArray, List.append_toArray, List.nil_append, List.cons_append]
  have hb0 := (Below.refl w.heap.size w).alloc (Nat.le_refl _) (.cells #[.func (.func 40) #[] #[]] 51)
  have bx0 := Boxed.new w 51 (.func (.func 40) #[] #[])
  gi_wp2_with fail
  obtain ⟨W0, hW0⟩ : ∃ W, w.alloc (.cells #[.func (.func 40) #[] #[]] 51) = W := ⟨_, rfl⟩
  rw [hW0] at hb0 bx0 ⊢
  clear hW0
  refine ⟨trivial, (HVA.out _ hb0).mono ?_⟩
  rintro e w1 ⟨rfl, h1⟩
  replace bx0 := r_box bx0 h1
  replace hb0 := hb0.trans (h1.mono hb0.size)
  clear h1
  gi_wp2_with fail
  refine ⟨trivial, (HVB.out _ hb0).mono ?_⟩
  rintro e w2 ⟨rfl, h1⟩
  replace bx0 := r_box bx0 h1
  replace hb0 := hb0.trans (h1.mono hb0.size)
  clear h1
  gi_wp2_with fail
  refine ⟨trivial, (HCH.out _).mono ?_⟩
  rintro e w3 ⟨rfl, hw3⟩
  have bL := Boxed.new w2 22 (.slice none 0 0)
  have bF := Boxed.new (w2.alloc (.cells #[.slice none 0 0] 22)) 3 (.int .i64 0)
  have bO := Boxed.new ((w2.alloc (.cells #[.slice none 0 0] 22)).alloc (.cells #[.int .i64 0] 3)) 4 (.bool false)
  have bA := Boxed.new (((w2.alloc (.cells #[.slice none 0 0] 22)).alloc (.cells #[.int .i64 0] 3)).alloc (.cells #[.bool false] 4)) 22 (.slice aa a.length ca)
  have bB := Boxed.new ((((w2.alloc (.cells #[.slice none 0 0] 22)).alloc (.cells #[.int .i64 0] 3)).alloc (.cells #[.bool false] 4)).alloc (.cells #[.slice aa a.length ca] 22)) 22 (.slice ab b.length cb)
  simp only [World.size_alloc] at bF bO bA bB
  replace bL := (((bL.alloc (.cells #[.int .i64 0] 3)).alloc (.cells #[.bool false] 4)).alloc (.cells #[.slice aa a.length ca] 22)).alloc (.cells #[.slice ab b.length cb] 22)
  replace bF := ((bF.alloc (.cells #[.bool false] 4)).alloc (.cells #[.slice aa a.length ca] 22)).alloc (.cells #[.slice ab b.length cb] 22)
  replace bO := (bO.alloc (.cells #[.slice aa a.length ca] 22)).alloc (.cells #[.slice ab b.length cb] 22)
  replace bA := bA.alloc (.cells #[.slice ab b.length cb] 22)
  have bW := ((((bx0.alloc (.cells #[.slice none 0 0] 22)).alloc (.cells #[.int .i64 0] 3)).alloc (.cells #[.bool false] 4)).alloc (.cells #[.slice aa a.length ca] 22)).alloc (.cells #[.slice ab b.length cb] 22)
  have hlt := bx0.lt
  have hb5 := hb0.trans ((((((Below.refl w2.heap.size w2).alloc (Nat.le_refl _) (.cells #[.slice none 0 0] 22)).alloc (by simp) (.cells #[.int .i64 0] 3)).alloc (by simp; omega) (.cells #[.bool false] 4)).alloc (by simp; omega) (.cells #[.slice aa a.length ca] 22)).alloc (by simp; omega) (.cells #[.slice ab b.length cb] 22) |>.mono hb0.size)
  have hs3 : w3.heap.size = w2.heap.size + 5 := by rw [← hw3]; simp
  rw [hw3] at bL bF bO bA bB bW hb5
  clear hw3 hb0 bx0
  have HS0 := Lib.hid hs3
  clear hs3
  gi_wp2_with fail
  have hs3 := HS0.out
  obtain ⟨N, hN⟩ : ∃ N, w2.heap.size = N := ⟨_, rfl⟩
  rw [hN] at bL bF bO bA bB hs3 hlt ⊢
  clear hN
  have hs4 : N + 1 + 1 + 1 + 1 < w3.heap.size := by omega
  clear hs3 HS0
  refine wpIn_rangeFunc_ownH rfl (by omega) (gf := 55) (lb := #[.pointer (some ⟨N + 1 + 1 + 1, 0, none⟩), .pointer (some ⟨N + 1 + 1 + 1 + 1, 0, none⟩)]) rfl trivial (enters_of Tryz.func55 (by kernel_rfl) rfl)
    (HST.out (N + 1 + 1 + 1) (N + 1 + 1 + 1 + 1) w3 (by omega) hs4 bA.cell bB.cell hb5) KpC.trans (KpC.putObj (by have := hb5.size; omega)) (Below.refl _ _) (fun _ => rfl)
    (fun ys W => InMeet w.heap.size N (.slice aa a.length ca) (.slice ab b.length cb) ys W ∧ Below w.heap.size w W) (fun _ _ _ => False)
    (OwnFrom.and (Own.from (inMeet_own _ _ _ _) _) (ownFrom_below (Nat.le_refl _) (by have := hb5.size; omega))) (fun _ _ _ _ _ hs _ _ => hs)
    ⟨⟨bW, ⟨_, bL, World.ownsRow_nil _ _ _ _, trivial⟩, bF, bO, bA, bB⟩, hb5⟩
    (fun x a' W => ∃ Bh, N + 1 + 1 < Bh ∧ Bx 50 W Bh (.bool x.2.1) (.bool x.2.2) ∧ a' = { tmps := #[.slice aa a.length ca, .slice ab b.length cb, .func (.func 40) #[] #[], undef, undef, .pointer (some ⟨w.heap.size, 0, none⟩), .slice none 0 0, .int .i64 0, .pointer (some ⟨N, 0, none⟩), .pointer (some ⟨N + 1, 0, none⟩), .pointer (some ⟨N + 1 + 1, 0, none⟩), .int .i64 x.1, .pointer (some ⟨Bh, 0, none⟩), undef, .slice aa a.length ca, .bool true, .bool false, .bool false, .slice ab b.length cb, .bool true, .bool false, .bool false, .slice aa a.length ca, .slice ab b.length cb,
      .func (.func 55) #[] #[.pointer (some ⟨N + 1 + 1 + 1, 0, none⟩), .pointer (some ⟨N + 1 + 1 + 1 + 1, 0, none⟩)], .int .i64 x.1, .agg #[.bool x.2.1, .bool x.2.2], undef, undef, undef, undef, undef, undef, undef, undef, undef, undef, undef, undef, undef, undef, undef, undef, undef, undef, undef, undef, undef, undef], defers := [] })
    (fun x a' _ W W' row ⟨Bh, h1, h2, h3⟩ hg hr => ⟨Bh, h1, (hg.block Bh h2.lt (fun e => by obtain ⟨_, o, ho, hc⟩ := hr _ e.symm; rw [show W.heap[Bh]? = _ from h2] at ho; cases ho; cases hc)).trans h2, h3⟩) ?assign ?body ?done ?stop
  case assign =>
    intro y pre x W K ⟨hI, hB⟩ hK
    dsimp only [encs]
    obtain ⟨d, p, q⟩ := x
    have HK := Lib.hid hK
    clear hK
    obtain ⟨h1, ⟨v, h2, h3, -⟩, h4, h5, h6, h7⟩ := hI
    have hN2 := h5.lt
    have HI : Hid (InMeet w.heap.size N (.slice aa a.length ca) (.slice ab b.length cb) pre (W.alloc (.cells #[.bool p, .bool q] 50))) := Lib.hid ⟨h1.alloc _, ⟨v, h2.alloc _, h3.alloc _, trivial⟩, h4.alloc _, h5.alloc _, h6.alloc _, h7.alloc _⟩
    have HBB := Lib.hid hB
    clear h1 h2 h3 h4 h5 h6 h7 hB
    gi_wp2
    exact HK.out _ _ ((KeepsOthers.alloc W _).from _) (KpC.alloc _ HBB.out.size) ⟨HI.out, HBB.out.alloc HBB.out.size _⟩ ⟨W.heap.size, by omega, Bx.new _ W _ _, rfl⟩
  case body =>
    rintro y pre x a' W - - ⟨⟨hW, ⟨v, hL, hown, -⟩, hF, hO, hA, hC⟩, hB⟩ ⟨Bh, hBh, hX, rfl⟩ hlen
    obtain ⟨d, p, q⟩ := x
    have HSN := Lib.hid (run_snoc opM pre (d, p, q))
    have hl2 := run_len opM pre
    have hl3 := chgs_len HA.out HB.out
    obtain ⟨s, hs⟩ : ∃ s, s = run opM pre := ⟨_, rfl⟩
    rw [← hs] at hown hF hO hl2 HSN
    clear hs
    obtain ⟨ls, f, o⟩ := s
    dsimp only at hown hF hO hl2
    have hl4 : ls.length ≤ 131072 := by omega
    clear hl2 hl3 hlen
    have cW := hW.cell
    have cX := hX.cells
    obtain ⟨x1, x2⟩ := cX
    gi_wp2_with fail
    refine ⟨trivial, (CallsIn.inRound y (callsIn_wide.2 (meet1_any p q W))).mono ?_⟩
    rintro e w1 ⟨rfl, h1⟩
    replace hW := r_box hW h1
    replace hL := r_box hL h1
    replace hF := r_box hF h1
    have HA0 := Lib.hid hA
    have HC0 := Lib.hid hC
    replace hO := r_box hO h1
    replace hA := r_box hA h1
    replace hC := r_box hC h1
    replace hown := hown.kept (grown_of_below h1) (by cases v.ownBlock <;> simp)
    have HKF := Lib.hid ((keeps_of_below h1).from w3.heap.size)
    have HBK := Lib.hid (h1.mono hB.size)
    replace hB := hB.trans (h1.mono hB.size)
    clear h1 cW x1 x2 hX
    obtain ⟨wn, hwn⟩ : ∃ r, r = opM p q := ⟨_, rfl⟩
    rw [← hwn]
    have HWN := Lib.hid hwn
    clear hwn
    have cL := hL.cell
    have cF := hF.cell
    have cO := hO.cell
    have fL := hL.frozen
    have fF := hF.frozen
    have fO := hO.frozen
    have HW := Lib.hid hW
    have HL := Lib.hid hL
    have HF := Lib.hid hF
    have HO := Lib.hid hO
    have HAA := Lib.hid hA
    have HCC := Lib.hid hC
    have HOW := Lib.hid hown
    have HBE := Lib.hid hB
    clear hW hL hF hO hown hB hA hC
    cases o <;> cases wn
    · have HS : Hid (run opM (pre ++ [(d, p, q)]) = ⟨ls, f, false⟩) := Lib.hid (by rw [HSN.out]; simp [stepC, ← HWN.out])
      have o1 := HOW.out.kept (grownBy_setCell' w1 (N + 1 + 1) (.bool false)) (.inr (HO.out.not_row (by decide) HOW.out).symm)
      have xW1 := HW.out.kept (grownBy_setCell' w1 (N + 1 + 1) (.bool false)) (by simp <;> omega)
      have xL1 := HL.out.kept (grownBy_setCell' w1 (N + 1 + 1) (.bool false)) (by simp <;> omega)
      have xF1 := HF.out.kept (grownBy_setCell' w1 (N + 1 + 1) (.bool false)) (by simp <;> omega)
      have xO1 := Boxed.set (.bool false) HO.out
      have xA1 := HAA.out.kept (grownBy_setCell' w1 (N + 1 + 1) (.bool false)) (by simp <;> omega)
      have xC1 := HCC.out.kept (grownBy_setCell' w1 (N + 1 + 1) (.bool false)) (by simp <;> omega)
      have l1 := HBE.out.setCell (p := ⟨N + 1 + 1, 0, none⟩) (by simp <;> omega) (.bool false)
      have m1 := HBK.out.setCell (p := ⟨N + 1 + 1, 0, none⟩) (by simp <;> omega) (.bool false)
      have k1 := HKF.out.trans ((KeepsOthers.setCell (w1) ⟨N + 1 + 1, 0, none⟩ (.bool false)).from w3.heap.size)
      have HZ : Hid (KeepsFrom w3.heap.size W (w1.setCell ⟨N + 1 + 1, 0, none⟩ (.bool false)) ∧ KpC w.heap.size (N + 1 + 1 + 1) (N + 1 + 1 + 1 + 1) W (w1.setCell ⟨N + 1 + 1, 0, none⟩ (.bool false)) ∧ InMeet w.heap.size N (.slice aa a.length ca) (.slice ab b.length cb) (pre ++ [(d, p, q)]) (w1.setCell ⟨N + 1 + 1, 0, none⟩ (.bool false)) ∧ Below w.heap.size w (w1.setCell ⟨N + 1 + 1, 0, none⟩ (.bool false))) := Lib.hid ⟨k1, KpC.of_boxed m1 HA0.out xA1 HC0.out xC1, by unfold InMeet; rw [HS.out]; exact ⟨xW1, ⟨v, xL1, o1, trivial⟩, xF1, xO1, xA1, xC1⟩, l1⟩
      clear xW1 xL1 xF1 xO1 xA1 xC1 o1 l1 m1 k1
      gi_wp2
      exact HZ.out
    · have HS : Hid (run opM (pre ++ [(d, p, q)]) = ⟨ls, d, true⟩) := Lib.hid (by rw [HSN.out]; simp [stepC, ← HWN.out])
      have o1 := HOW.out.kept (grownBy_setCell' w1 (N + 1) (.int .i64 d)) (.inr (HF.out.not_row (by decide) HOW.out).symm)
      have xW1 := HW.out.kept (grownBy_setCell' w1 (N + 1) (.int .i64 d)) (by simp <;> omega)
      have xL1 := HL.out.kept (grownBy_setCell' w1 (N + 1) (.int .i64 d)) (by simp <;> omega)
      have xF1 := Boxed.set (.int .i64 d) HF.out
      have xO1 := HO.out.kept (grownBy_setCell' w1 (N + 1) (.int .i64 d)) (by simp <;> omega)
      have xA1 := HAA.out.kept (grownBy_setCell' w1 (N + 1) (.int .i64 d)) (by simp <;> omega)
      have xC1 := HCC.out.kept (grownBy_setCell' w1 (N + 1) (.int .i64 d)) (by simp <;> omega)
      have l1 := HBE.out.setCell (p := ⟨N + 1, 0, none⟩) (by simp <;> omega) (.int .i64 d)
      have m1 := HBK.out.setCell (p := ⟨N + 1, 0, none⟩) (by simp <;> omega) (.int .i64 d)
      have k1 := HKF.out.trans ((KeepsOthers.setCell (w1) ⟨N + 1, 0, none⟩ (.int .i64 d)).from w3.heap.size)
      have o2 := o1.kept (grownBy_setCell' (w1.setCell ⟨N + 1, 0, none⟩ (.int .i64 d)) (N + 1 + 1) (.bool true)) (.inr (xO1.not_row (by decide) o1).symm)
      have xW2 := xW1.kept (grownBy_setCell' (w1.setCell ⟨N + 1, 0, none⟩ (.int .i64 d)) (N + 1 + 1) (.bool true)) (by simp <;> omega)
      have xL2 := xL1.kept (grownBy_setCell' (w1.setCell ⟨N + 1, 0, none⟩ (.int .i64 d)) (N + 1 + 1) (.bool true)) (by simp <;> omega)
      have xF2 := xF1.kept (grownBy_setCell' (w1.setCell ⟨N + 1, 0, none⟩ (.int .i64 d)) (N + 1 + 1) (.bool true)) (by simp <;> omega)
      have xO2 := Boxed.set (.bool true) xO1
      have xA2 := xA1.kept (grownBy_setCell' (w1.setCell ⟨N + 1, 0, none⟩ (.int .i64 d)) (N + 1 + 1) (.bool true)) (by simp <;> omega)
      have xC2 := xC1.kept (grownBy_setCell' (w1.setCell ⟨N + 1, 0, none⟩ (.int .i64 d)) (N + 1 + 1) (.bool true)) (by simp <;> omega)
      have l2 := l1.setCell (p := ⟨N + 1 + 1, 0, none⟩) (by simp <;> omega) (.bool true)
      have m2 := m1.setCell (p := ⟨N + 1 + 1, 0, none⟩) (by simp <;> omega) (.bool true)
      have k2 := k1.trans ((KeepsOthers.setCell ((w1.setCell ⟨N + 1, 0, none⟩ (.int .i64 d))) ⟨N + 1 + 1, 0, none⟩ (.bool true)).from w3.heap.size)
      have HZ : Hid (KeepsFrom w3.heap.size W ((w1.setCell ⟨N + 1, 0, none⟩ (.int .i64 d)).setCell ⟨N + 1 + 1, 0, none⟩ (.bool true)) ∧ KpC w.heap.size (N + 1 + 1 + 1) (N + 1 + 1 + 1 + 1) W ((w1.setCell ⟨N + 1, 0, none⟩ (.int .i64 d)).setCell ⟨N + 1 + 1, 0, none⟩ (.bool true)) ∧ InMeet w.heap.size N (.slice aa a.length ca) (.slice ab b.length cb) (pre ++ [(d, p, q)]) ((w1.setCell ⟨N + 1, 0, none⟩ (.int .i64 d)).setCell ⟨N + 1 + 1, 0, none⟩ (.bool true)) ∧ Below w.heap.size w ((w1.setCell ⟨N + 1, 0, none⟩ (.int .i64 d)).setCell ⟨N + 1 + 1, 0, none⟩ (.bool true))) := Lib.hid ⟨k2, KpC.of_boxed m2 HA0.out xA2 HC0.out xC2, by unfold InMeet; rw [HS.out]; exact ⟨xW2, ⟨v, xL2, o2, trivial⟩, xF2, xO2, xA2, xC2⟩, l2⟩
      clear xW1 xL1 xF1 xO1 xA1 xC1 o1 l1 m1 k1
      clear xW2 xL2 xF2 xO2 xA2 xC2 o2 l2 m2 k2
      gi_wp2
      exact HZ.out
    · have HS : Hid (run opM (pre ++ [(d, p, q)]) = ⟨ls ++ [(f, d)], f, false⟩) := Lib.hid (by rw [HSN.out]; simp [stepC, ← HWN.out])
      have hB2 := HBE.out.size
      have hL2 := HL.out
      have hown2 := HOW.out
      gi_wp2_with (gi_at_builtin; refine wpListIn_append_own _ rfl _ _ 22 rfl w.heap.size 31 i0 (.agg #[.int .i64 0, .int .i64 0]) 2 16 Tryz.underlying22 hi hz0 hz1 hz2 rfl (by decide) _ _ _ rfl (hown2.alloc _) ⟨w1.heap.size, 0, none⟩ 1 1 [.int .i64 f, .int .i64 d] rfl rfl (cell_two_new _ _ _ _) (by simp [Value.oneCell']) (by unfold maxLen; omega) (by omega) (by simp; omega) ?_; intro v' w4 hown' hgrow _; obtain ⟨g', cap', rfl⟩ := ownsRow_succ hown'; obtain ⟨hv1, hv3, hr3, hk3, hb3⟩ := hL2.appended (by decide) hown2 hB2 (by omega) hown' hgrow; have hO4 := (HO.out.alloc _).kept hgrow (HO.out.not_row (by decide) hown2); have cv3 := hv1.cell; have fv3 := hv1.frozen; have cO4 := hO4.cell; have fO4 := hO4.frozen)
      obtain ⟨V, hV⟩ : ∃ V, Value.slice (some ⟨g', 0, none⟩) (ls.length + 1) cap' = V := ⟨_, rfl⟩
      rw [hV] at hv3 hr3 hk3 hb3 ⊢
      have c4 : ∀ {B : Nat} {t : TypeId} {u : Value}, Boxed w1 B t u → ¬ t = 31 → B ≠ N → Boxed (w4.setCell ⟨N, 0, none⟩ V) B t u := fun h h1 h2 => ((h.alloc _).kept hgrow (h.not_row h1 hown2)).kept (grownBy_setCell' w4 N V) (fun e => h2 (Option.some.inj e))
      have xW := c4 HW.out (by decide) (by omega)
      have xF := c4 HF.out (by decide) (by omega)
      have xO := c4 HO.out (by decide) (by omega)
      have xA := c4 HAA.out (by decide) (by omega)
      have xC := c4 HCC.out (by decide) (by omega)
      have g2 := grownBy_setCell' (w4.setCell ⟨N, 0, none⟩ V) (N + 1 + 1) (.bool false)
      refine ⟨(HKF.out.trans (hk3.from _)).trans ((KeepsOthers.setCell _ ⟨N + 1 + 1, 0, none⟩ (.bool false)).from _), KpC.of_boxed ((HBK.out.trans hb3).setCell (by simp <;> omega) _) HA0.out (xA.kept g2 (by simp <;> omega)) HC0.out (xC.kept g2 (by simp <;> omega)), ?_, (HBE.out.trans hb3).setCell (by simp <;> omega) _⟩
      unfold InMeet
      rw [HS.out]
      exact ⟨xW.kept g2 (by simp <;> omega), ⟨_, hv3.kept g2 (by simp <;> omega), by rw [cellsS_append, List.length_append]; exact hr3.kept g2 (.inr (xO.not_row (by decide) hr3).symm), trivial⟩, xF.kept g2 (by simp <;> omega), xO.set _, xA.kept g2 (by simp <;> omega), xC.kept g2 (by simp <;> omega)⟩
    · have HS : Hid (run opM (pre ++ [(d, p, q)]) = ⟨ls, f, true⟩) := Lib.hid (by rw [HSN.out]; simp [stepC, ← HWN.out])
      have o1 := HOW.out.kept (grownBy_setCell' w1 (N + 1 + 1) (.bool true)) (.inr (HO.out.not_row (by decide) HOW.out).symm)
      have xW1 := HW.out.kept (grownBy_setCell' w1 (N + 1 + 1) (.bool true)) (by simp <;> omega)
      have xL1 := HL.out.kept (grownBy_setCell' w1 (N + 1 + 1) (.bool true)) (by simp <;> omega)
      have xF1 := HF.out.kept (grownBy_setCell' w1 (N + 1 + 1) (.bool true)) (by simp <;> omega)
      have xO1 := Boxed.set (.bool true) HO.out
      have xA1 := HAA.out.kept (grownBy_setCell' w1 (N + 1 + 1) (.bool true)) (by simp <;> omega)
      have xC1 := HCC.out.kept (grownBy_setCell' w1 (N + 1 + 1) (.bool true)) (by simp <;> omega)
      have l1 := HBE.out.setCell (p := ⟨N + 1 + 1, 0, none⟩) (by simp <;> omega) (.bool true)
      have m1 := HBK.out.setCell (p := ⟨N + 1 + 1, 0, none⟩) (by simp <;> omega) (.bool true)
      have k1 := HKF.out.trans ((KeepsOthers.setCell (w1) ⟨N + 1 + 1, 0, none⟩ (.bool true)).from w3.heap.size)
      have HZ : Hid (KeepsFrom w3.heap.size W (w1.setCell ⟨N + 1 + 1, 0, none⟩ (.bool true)) ∧ KpC w.heap.size (N + 1 + 1 + 1) (N + 1 + 1 + 1 + 1) W (w1.setCell ⟨N + 1 + 1, 0, none⟩ (.bool true)) ∧ InMeet w.heap.size N (.slice aa a.length ca) (.slice ab b.length cb) (pre ++ [(d, p, q)]) (w1.setCell ⟨N + 1 + 1, 0, none⟩ (.bool true)) ∧ Below w.heap.size w (w1.setCell ⟨N + 1 + 1, 0, none⟩ (.bool true))) := Lib.hid ⟨k1, KpC.of_boxed m1 HA0.out xA1 HC0.out xC1, by unfold InMeet; rw [HS.out]; exact ⟨xW1, ⟨v, xL1, o1, trivial⟩, xF1, xO1, xA1, xC1⟩, l1⟩
      clear xW1 xL1 xF1 xO1 xA1 xC1 o1 l1 m1 k1
      gi_wp2
      exact HZ.out
  case done =>
    rintro D ys W hD hS ⟨⟨hW, ⟨v, hL, hown, -⟩, hF, hO, hA, hC⟩, hB⟩ hK
    have hc : (run opM ys).l = comb opM a b := by rw [show ys = chgs a b from hS]; rfl
    rw [hc] at hown
    have cL := hL.cell
    have HOWN := Lib.hid hown
    clear hown hc hS hW hF hO hA hC
    have hsz := hb5.size
    gi_wp2
    refine ⟨by simp, .inl ⟨_, _, rfl, run_takeDeferred hK, ?_⟩⟩
    refine ⟨_, results_tmp2 rfl _ _ _, ⟨v, rfl, ownsRow_putObj HOWN.out _ hK rfl⟩, hB.trans (belowK_b (w := w) (Nat.le_refl _) W D _ _ (by omega) hK rfl rfl)⟩
  case stop =>
    rintro D c pre W _ _ h _
    exact h.elim

/-- A set that the call has made, with the days that are wanted. -/
theorem Meet_ok (va vb : Value) (a b : L) (ha : IsSet a) (hb : IsSet b) (w : World) (hla : Spn w va a) (hlb : Spn w vb b) :
    Calls Tryz.prog 15 #[va, vb] w (Gives (comb opM a b) w) := by
  have HC := Lib.hid (combine_Meet va vb a b ha hb w hla hlb)
  obtain ⟨aa, ca, rfl, -⟩ := hla
  obtain ⟨ab, cb, rfl, -⟩ := hlb
  clear ha hb
  go_enter Tryz.func15, Tryz.ntmps15
  go_wp2_with fail
  refine HC.out.mono ?_
  rintro e w1 ⟨⟨v, rfl, hown⟩, hb1⟩
  have HO := Lib.hid hown
  clear hown
  go_wp2
  go_ret2
  exact ⟨⟨v, rfl, HO.out⟩, hb1⟩
theorem Meet_no (va vb : Value) (a b : L) (h : ¬ (IsSet a ∧ IsSet b)) (w : World) (hla : Spn w va a) (hlb : Spn w vb b) :
    Calls Tryz.prog 15 #[va, vb] w (Says (.tuple #[.slice none 0 0, .int .i64 2]) w) := by
  have HC := Lib.hid (combine_no va vb 40 a b h w hla hlb)
  obtain ⟨aa, ca, rfl, -⟩ := hla
  obtain ⟨ab, cb, rfl, -⟩ := hlb
  clear h
  go_enter Tryz.func15, Tryz.ntmps15
  go_wp2_with fail
  refine HC.out.mono ?_
  rintro e w1 ⟨rfl, hb1⟩
  go_wp2
  go_ret2
  exact ⟨rfl, hb1⟩
/-- What the rounds keep: the boxes, and what has been put together so far. -/
def InMinus (B N : Nat) (va vb : Value) (ys : List Yd) (W : World) : Prop :=
  Boxed W B 51 (.func (.func 41) #[] #[]) ∧ (∃ v, Boxed W N 22 v ∧ W.ownsRow B 31 2 v (run opD ys).l.length (cellsS (run opD ys).l) ∧ True) ∧ Boxed W (N + 1) 3 (.int .i64 (run opD ys).frm) ∧ Boxed W (N + 2) 4 (.bool (run opD ys).opn) ∧ Boxed W (N + 1 + 1 + 1) 22 va ∧ Boxed W (N + 1 + 1 + 1 + 1) 22 vb

theorem inMinus_own (B N : Nat) (va vb : Value) : Own (InMinus B N va vb) := by
  intro s X Y row ⟨h1, h2, h3, h4, h5, h6⟩ hg hr
  exact ⟨boxed_own B _ (fun (_ : List Yd) => _) s X Y row h1 hg hr, holdsRow_own B N _ _ 2 (fun s => (run opD s).l.length) (fun s => cellsS (run opD s).l) (fun _ _ => True) s X Y row h2 hg hr, boxed_own (N + 1) _ (fun s => .int .i64 (run opD s).frm) s X Y row h3 hg hr, boxed_own (N + 2) _ (fun s => .bool (run opD s).opn) s X Y row h4 hg hr, boxed_own (N + 1 + 1 + 1) _ (fun (_ : List Yd) => va) s X Y row h5 hg hr, boxed_own (N + 1 + 1 + 1 + 1) _ (fun (_ : List Yd) => vb) s X Y row h6 hg hr⟩

set_option maxRecDepth 100000 in
set_option maxHeartbeats 4000000 in
theorem combine_Minus (va vb : Value) (a b : L) (ha : IsSet a) (hb : IsSet b) (w : World) (hla : Spn w va a) (hlb : Spn w vb b) :
    Calls Tryz.prog 38 #[va, vb, .func (.func 41) #[] #[]] w (fun e w' => (∃ v, e = .returned (.tuple #[v, .int .i64 0]) ∧ w'.ownsRow w.heap.size 31 2 v (comb opD a b).length (cellsS (comb opD a b))) ∧ Below w.heap.size w w') := by
  refine callsIn_wide (n := 4).1 ?_
  have hvA := fun W (hW : Below w.heap.size w W) => callsIn_wide (n := 3).2 (Valid_any va a W (hla.below hW (Nat.le_refl _)))
  have hvB := fun W (hW : Below w.heap.size w W) => callsIn_wide (n := 3).2 (Valid_any vb b W (hlb.below hW (Nat.le_refl _)))
  rw [(vldB_iff a).2 ha] at hvA
  rw [(vldB_iff b).2 hb] at hvB
  have HVA := Lib.hid hvA
  have HVB := Lib.hid hvB
  have hst := fun Ba Bb W hA hB hcA hcB hbl => changes_stops 3 (by omega) Ba Bb w.heap.size va vb a b ha hb w hla hlb (Nat.le_refl _) W hA hB hcA hcB hbl
  have HST := Lib.hid hst
  have HA := Lib.hid ha
  have HB := Lib.hid hb
  obtain ⟨aa, ca, rfl, -⟩ := hla
  obtain ⟨ab, cb, rfl, -⟩ := hlb
  have hch := fun W => callsIn_wide (n := 3).2 (changes_in (.slice aa a.length ca) (.slice ab b.length cb) aa ab a.length b.length ca cb rfl rfl W)
  have HCH := Lib.hid hch
  clear hvA hvB hst ha hb hch
  obtain ⟨i0, hi, hz0, hz1, hz2⟩ := info_parts Tryz.infoS
  refine callsIn_of_wp_marks Tryz.func38 rfl trivial ?_
  simp only [Tryz.ntmps38, List.size_toArray, List.length_cons, List.length_nil, Nat.reduceAdd, Nat.reduceSub, Array.replicate_succ, Array.replicate_zero, List.push_toArray, List.append_toArray, List.nil_append, List.cons_append]
  have hb0 := (Below.refl w.heap.size w).alloc (Nat.le_refl _) (.cells #[.func (.func 41) #[] #[]] 51)
  have bx0 := Boxed.new w 51 (.func (.func 41) #[] #[])
  gi_wp2_with fail
  obtain ⟨W0, hW0⟩ : ∃ W, w.alloc (.cells #[.func (.func 41) #[] #[]] 51) = W := ⟨_, rfl⟩
  rw [hW0] at hb0 bx0 ⊢
  clear hW0
  refine ⟨trivial, (HVA.out _ hb0).mono ?_⟩
  rintro e w1 ⟨rfl, h1⟩
  replace bx0 := r_box bx0 h1
  replace hb0 := hb0.trans (h1.mono hb0.size)
  clear h1
  gi_wp2_with fail
  refine ⟨trivial, (HVB.out _ hb0).mono ?_⟩
  rintro e w2 ⟨rfl, h1⟩
  replace bx0 := r_box bx0 h1
  replace hb0 := hb0.trans (h1.mono hb0.size)
  clear h1
  gi_wp2_with fail
  refine ⟨trivial, (HCH.out _).mono ?_⟩
  rintro e w3 ⟨rfl, hw3⟩
  have bL := Boxed.new w2 22 (.slice none 0 0)
  have bF := Boxed.new (w2.alloc (.cells #[.slice none 0 0] 22)) 3 (.int .i64 0)
  have bO := Boxed.new ((w2.alloc (.cells #[.slice none 0 0] 22)).alloc (.cells #[.int .i64 0] 3)) 4 (.bool false)
  have bA := Boxed.new (((w2.alloc (.cells #[.slice none 0 0] 22)).alloc (.cells #[.int .i64 0] 3)).alloc (.cells #[.bool false] 4)) 22 (.slice aa a.length ca)
  have bB := Boxed.new ((((w2.alloc (.cells #[.slice none 0 0] 22)).alloc (.cells #[.int .i64 0] 3)).alloc (.cells #[.bool false] 4)).alloc (.cells #[.slice aa a.length ca] 22)) 22 (.slice ab b.length cb)
  simp only [World.size_alloc] at bF bO bA bB
  replace bL := (((bL.alloc (.cells #[.int .i64 0] 3)).alloc (.cells #[.bool false] 4)).alloc (.cells #[.slice aa a.length ca] 22)).alloc (.cells #[.slice ab b.length cb] 22)
  replace bF := ((bF.alloc (.cells #[.bool false] 4)).alloc (.cells #[.slice aa a.length ca] 22)).alloc (.cells #[.slice ab b.length cb] 22)
  replace bO := (bO.alloc (.cells #[.slice aa a.length ca] 22)).alloc (.cells #[.slice ab b.length cb] 22)
  replace bA := bA.alloc (.cells #[.slice ab b.length cb] 22)
  have bW := ((((bx0.alloc (.cells #[.slice none 0 0] 22)).alloc (.cells #[.int .i64 0] 3)).alloc (.cells #[.bool false] 4)).alloc (.cells #[.slice aa a.length ca] 22)).alloc (.cells #[.slice ab b.length cb] 22)
  have hlt := bx0.lt
  have hb5 := hb0.trans ((((((Below.refl w2.heap.size w2).alloc (Nat.le_refl _) (.cells #[.slice none 0 0] 22)).alloc (by simp) (.cells #[.int .i64 0] 3)).alloc (by simp; omega) (.cells #[.bool false] 4)).alloc (by simp; omega) (.cells #[.slice aa a.length ca] 22)).alloc (by simp; omega) (.cells #[.slice ab b.length cb] 22) |>.mono hb0.size)
  have hs3 : w3.heap.size = w2.heap.size + 5 := by rw [← hw3]; simp
  rw [hw3] at bL bF bO bA bB bW hb5
  clear hw3 hb0 bx0
  have HS0 := Lib.hid hs3
  clear hs3
  gi_wp2_with fail
  have hs3 := HS0.out
  obtain ⟨N, hN⟩ : ∃ N, w2.heap.size = N := ⟨_, rfl⟩
  rw [hN] at bL bF bO bA bB hs3 hlt ⊢
  clear hN
  have hs4 : N + 1 + 1 + 1 + 1 < w3.heap.size := by omega
  clear hs3 HS0
  refine wpIn_rangeFunc_ownH rfl (by omega) (gf := 55) (lb := #[.pointer (some ⟨N + 1 + 1 + 1, 0, none⟩), .pointer (some ⟨N + 1 + 1 + 1 + 1, 0, none⟩)]) rfl trivial (enters_of Tryz.func55 (by kernel_rfl) rfl)
    (HST.out (N + 1 + 1 + 1) (N + 1 + 1 + 1 + 1) w3 (by omega) hs4 bA.cell bB.cell hb5) KpC.trans (KpC.putObj (by have := hb5.size; omega)) (Below.refl _ _) (fun _ => rfl)
    (fun ys W => InMinus w.heap.size N (.slice aa a.length ca) (.slice ab b.length cb) ys W ∧ Below w.heap.size w W) (fun _ _ _ => False)
    (OwnFrom.and (Own.from (inMinus_own _ _ _ _) _) (ownFrom_below (Nat.le_refl _) (by have := hb5.size; omega))) (fun _ _ _ _ _ hs _ _ => hs)
    ⟨⟨bW, ⟨_, bL, World.ownsRow_nil _ _ _ _, trivial⟩, bF, bO, bA, bB⟩, hb5⟩
    (fun x a' W => ∃ Bh, N + 1 + 1 < Bh ∧ Bx 50 W Bh (.bool x.2.1) (.bool x.2.2) ∧ a' = { tmps := #[.slice aa a.length ca, .slice ab b.length cb, .func (.func 41) #[] #[], undef, undef, .pointer (some ⟨w.heap.size, 0, none⟩), .slice none 0 0, .int .i64 0, .pointer (some ⟨N, 0, none⟩), .pointer (some ⟨N + 1, 0, none⟩), .pointer (some ⟨N + 1 + 1, 0, none⟩), .int .i64 x.1, .pointer (some ⟨Bh, 0, none⟩), undef, .slice aa a.length ca, .bool true, .bool false, .bool false, .slice ab b.length cb, .bool true, .bool false, .bool false, .slice aa a.length ca, .slice ab b.length cb,
      .func (.func 55) #[] #[.pointer (some ⟨N + 1 + 1 + 1, 0, none⟩), .pointer (some ⟨N + 1 + 1 + 1 + 1, 0, none⟩)], .int .i64 x.1, .agg #[.bool x.2.1, .bool x.2.2], undef, undef, undef, undef, undef, undef, undef, undef, undef, undef, undef, undef, undef, undef, undef, undef, undef, undef, undef, undef, undef, undef], defers := [] })
    (fun x a' _ W W' row ⟨Bh, h1, h2, h3⟩ hg hr => ⟨Bh, h1, (hg.block Bh h2.lt (fun e => by obtain ⟨_, o, ho, hc⟩ := hr _ e.symm; rw [show W.heap[Bh]? = _ from h2] at ho; cases ho; cases hc)).trans h2, h3⟩) ?assign ?body ?done ?stop
  case assign =>
    intro y pre x W K ⟨hI, hB⟩ hK
    dsimp only [encs]
    obtain ⟨d, p, q⟩ := x
    have HK := Lib.hid hK
    clear hK
    obtain ⟨h1, ⟨v, h2, h3, -⟩, h4, h5, h6, h7⟩ := hI
    have hN2 := h5.lt
    have HI : Hid (InMinus w.heap.size N (.slice aa a.length ca) (.slice ab b.length cb) pre (W.alloc (.cells #[.bool p, .bool q] 50))) := Lib.hid ⟨h1.alloc _, ⟨v, h2.alloc _, h3.alloc _, trivial⟩, h4.alloc _, h5.alloc _, h6.alloc _, h7.alloc _⟩
    have HBB := Lib.hid hB
    clear h1 h2 h3 h4 h5 h6 h7 hB
    gi_wp2
    exact HK.out _ _ ((KeepsOthers.alloc W _).from _) (KpC.alloc _ HBB.out.size) ⟨HI.out, HBB.out.alloc HBB.out.size _⟩ ⟨W.heap.size, by omega, Bx.new _ W _ _, rfl⟩
  case body =>
    rintro y pre x a' W - - ⟨⟨hW, ⟨v, hL, hown, -⟩, hF, hO, hA, hC⟩, hB⟩ ⟨Bh, hBh, hX, rfl⟩ hlen
    obtain ⟨d, p, q⟩ := x
    have HSN := Lib.hid (run_snoc opD pre (d, p, q))
    have hl2 := run_len opD pre
    have hl3 := chgs_len HA.out HB.out
    obtain ⟨s, hs⟩ : ∃ s, s = run opD pre := ⟨_, rfl⟩
    rw [← hs] at hown hF hO hl2 HSN
    clear hs
    obtain ⟨ls, f, o⟩ := s
    dsimp only at hown hF hO hl2
    have hl4 : ls.length ≤ 131072 := by omega
    clear hl2 hl3 hlen
    have cW := hW.cell
    have cX := hX.cells
    obtain ⟨x1, x2⟩ := cX
    gi_wp2_with fail
    refine ⟨trivial, (CallsIn.inRound y (callsIn_wide.2 (minus1_any p q W))).mono ?_⟩
    rintro e w1 ⟨rfl, h1⟩
    replace hW := r_box hW h1
    replace hL := r_box hL h1
    replace hF := r_box hF h1
    have HA0 := Lib.hid hA
    have HC0 := Lib.hid hC
    replace hO := r_box hO h1
    replace hA := r_box hA h1
    replace hC := r_box hC h1
    replace hown := hown.kept (grown_of_below h1) (by cases v.ownBlock <;> simp)
    have HKF := Lib.hid ((keeps_of_below h1).from w3.heap.size)
    have HBK := Lib.hid (h1.mono hB.size)
    replace hB := hB.trans (h1.mono hB.size)
    clear h1 cW x1 x2 hX
    obtain ⟨wn, hwn⟩ : ∃ r, r = opD p q := ⟨_, rfl⟩
    rw [← hwn]
    have HWN := Lib.hid hwn
    clear hwn
    have cL := hL.cell
    have cF := hF.cell
    have cO := hO.cell
    have fL := hL.frozen
    have fF := hF.frozen
    have fO := hO.frozen
    have HW := Lib.hid hW
    have HL := Lib.hid hL
    have HF := Lib.hid hF
    have HO := Lib.hid hO
    have HAA := Lib.hid hA
    have HCC := Lib.hid hC
    have HOW := Lib.hid hown
    have HBE := Lib.hid hB
    clear hW hL hF hO hown hB hA hC
    cases o <;> cases wn
    · have HS : Hid (run opD (pre ++ [(d, p, q)]) = ⟨ls, f, false⟩) := Lib.hid (by rw [HSN.out]; simp [stepC, ← HWN.out])
      have o1 := HOW.out.kept (grownBy_setCell' w1 (N + 1 + 1) (.bool false)) (.inr (HO.out.not_row (by decide) HOW.out).symm)
      have xW1 := HW.out.kept (grownBy_setCell' w1 (N + 1 + 1) (.bool false)) (by simp <;> omega)
      have xL1 := HL.out.kept (grownBy_setCell' w1 (N + 1 + 1) (.bool false)) (by simp <;> omega)
      have xF1 := HF.out.kept (grownBy_setCell' w1 (N + 1 + 1) (.bool false)) (by simp <;> omega)
      have xO1 := Boxed.set (.bool false) HO.out
      have xA1 := HAA.out.kept (grownBy_setCell' w1 (N + 1 + 1) (.bool false)) (by simp <;> omega)
      have xC1 := HCC.out.kept (grownBy_setCell' w1 (N + 1 + 1) (.bool false)) (by simp <;> omega)
      have l1 := HBE.out.setCell (p := ⟨N + 1 + 1, 0, none⟩) (by simp <;> omega) (.bool false)
      have m1 := HBK.out.setCell (p := ⟨N + 1 + 1, 0, none⟩) (by simp <;> omega) (.bool false)
      have k1 := HKF.out.trans ((KeepsOthers.setCell (w1) ⟨N + 1 + 1, 0, none⟩ (.bool false)).from w3.heap.size)
      have HZ : Hid (KeepsFrom w3.heap.size W (w1.setCell ⟨N + 1 + 1, 0, none⟩ (.bool false)) ∧ KpC w.heap.size (N + 1 + 1 + 1) (N + 1 + 1 + 1 + 1) W (w1.setCell ⟨N + 1 + 1, 0, none⟩ (.bool false)) ∧ InMinus w.heap.size N (.slice aa a.length ca) (.slice ab b.length cb) (pre ++ [(d, p, q)]) (w1.setCell ⟨N + 1 + 1, 0, none⟩ (.bool false)) ∧ Below w.heap.size w (w1.setCell ⟨N + 1 + 1, 0, none⟩ (.bool false))) := Lib.hid ⟨k1, KpC.of_boxed m1 HA0.out xA1 HC0.out xC1, by unfold InMinus; rw [HS.out]; exact ⟨xW1, ⟨v, xL1, o1, trivial⟩, xF1, xO1, xA1, xC1⟩, l1⟩
      clear xW1 xL1 xF1 xO1 xA1 xC1 o1 l1 m1 k1
      gi_wp2
      exact HZ.out
    · have HS : Hid (run opD (pre ++ [(d, p, q)]) = ⟨ls, d, true⟩) := Lib.hid (by rw [HSN.out]; simp [stepC, ← HWN.out])
      have o1 := HOW.out.kept (grownBy_setCell' w1 (N + 1) (.int .i64 d)) (.inr (HF.out.not_row (by decide) HOW.out).symm)
      have xW1 := HW.out.kept (grownBy_setCell' w1 (N + 1) (.int .i64 d)) (by simp <;> omega)
      have xL1 := HL.out.kept (grownBy_setCell' w1 (N + 1) (.int .i64 d)) (by simp <;> omega)
      have xF1 := Boxed.set (.int .i64 d) HF.out
      have xO1 := HO.out.kept (grownBy_setCell' w1 (N + 1) (.int .i64 d)) (by simp <;> omega)
      have xA1 := HAA.out.kept (grownBy_setCell' w1 (N + 1) (.int .i64 d)) (by simp <;> omega)
      have xC1 := HCC.out.kept (grownBy_setCell' w1 (N + 1) (.int .i64 d)) (by simp <;> omega)
      have l1 := HBE.out.setCell (p := ⟨N + 1, 0, none⟩) (by simp <;> omega) (.int .i64 d)
      have m1 := HBK.out.setCell (p := ⟨N + 1, 0, none⟩) (by simp <;> omega) (.int .i64 d)
      have k1 := HKF.out.trans ((KeepsOthers.setCell (w1) ⟨N + 1, 0, none⟩ (.int .i64 d)).from w3.heap.size)
      have o2 := o1.kept (grownBy_setCell' (w1.setCell ⟨N + 1, 0, none⟩ (.int .i64 d)) (N + 1 + 1) (.bool true)) (.inr (xO1.not_row (by decide) o1).symm)
      have xW2 := xW1.kept (grownBy_setCell' (w1.setCell ⟨N + 1, 0, none⟩ (.int .i64 d)) (N + 1 + 1) (.bool true)) (by simp <;> omega)
      have xL2 := xL1.kept (grownBy_setCell' (w1.setCell ⟨N + 1, 0, none⟩ (.int .i64 d)) (N + 1 + 1) (.bool true)) (by simp <;> omega)
      have xF2 := xF1.kept (grownBy_setCell' (w1.setCell ⟨N + 1, 0, none⟩ (.int .i64 d)) (N + 1 + 1) (.bool true)) (by simp <;> omega)
      have xO2 := Boxed.set (.bool true) xO1
      have xA2 := xA1.kept (grownBy_setCell' (w1.setCell ⟨N + 1, 0, none⟩ (.int .i64 d)) (N + 1 + 1) (.bool true)) (by simp <;> omega)
      have xC2 := xC1.kept (grownBy_setCell' (w1.setCell ⟨N + 1, 0, none⟩ (.int .i64 d)) (N + 1 + 1) (.bool true)) (by simp <;> omega)
      have l2 := l1.setCell (p := ⟨N + 1 + 1, 0, none⟩) (by simp <;> omega) (.bool true)
      have m2 := m1.setCell (p := ⟨N + 1 + 1, 0, none⟩) (by simp <;> omega) (.bool true)
      have k2 := k1.trans ((KeepsOthers.setCell ((w1.setCell ⟨N + 1, 0, none⟩ (.int .i64 d))) ⟨N + 1 + 1, 0, none⟩ (.bool true)).from w3.heap.size)
      have HZ : Hid (KeepsFrom w3.heap.size W ((w1.setCell ⟨N + 1, 0, none⟩ (.int .i64 d)).setCell ⟨N + 1 + 1, 0, none⟩ (.bool true)) ∧ KpC w.heap.size (N + 1 + 1 + 1) (N + 1 + 1 + 1 + 1) W ((w1.setCell ⟨N + 1, 0, none⟩ (.int .i64 d)).setCell ⟨N + 1 + 1, 0, none⟩ (.bool true)) ∧ InMinus w.heap.size N (.slice aa a.length ca) (.slice ab b.length cb) (pre ++ [(d, p, q)]) ((w1.setCell ⟨N + 1, 0, none⟩ (.int .i64 d)).setCell ⟨N + 1 + 1, 0, none⟩ (.bool true)) ∧ Below w.heap.size w ((w1.setCell ⟨N + 1, 0, none⟩ (.int .i64 d)).setCell ⟨N + 1 + 1, 0, none⟩ (.bool true))) := Lib.hid ⟨k2, KpC.of_boxed m2 HA0.out xA2 HC0.out xC2, by unfold InMinus; rw [HS.out]; exact ⟨xW2, ⟨v, xL2, o2, trivial⟩, xF2, xO2, xA2, xC2⟩, l2⟩
      clear xW1 xL1 xF1 xO1 xA1 xC1 o1 l1 m1 k1
      clear xW2 xL2 xF2 xO2 xA2 xC2 o2 l2 m2 k2
      gi_wp2
      exact HZ.out
    · have HS : Hid (run opD (pre ++ [(d, p, q)]) = ⟨ls ++ [(f, d)], f, false⟩) := Lib.hid (by rw [HSN.out]; simp [stepC, ← HWN.out])
      have hB2 := HBE.out.size
      have hL2 := HL.out
      have hown2 := HOW.out
      gi_wp2_with (gi_at_builtin; refine wpListIn_append_own _ rfl _ _ 22 rfl w.heap.size 31 i0 (.agg #[.int .i64 0, .int .i64 0]) 2 16 Tryz.underlying22 hi hz0 hz1 hz2 rfl (by decide) _ _ _ rfl (hown2.alloc _) ⟨w1.heap.size, 0, none⟩ 1 1 [.int .i64 f, .int .i64 d] rfl rfl (cell_two_new _ _ _ _) (by simp [Value.oneCell']) (by unfold maxLen; omega) (by omega) (by simp; omega) ?_; intro v' w4 hown' hgrow _; obtain ⟨g', cap', rfl⟩ := ownsRow_succ hown'; obtain ⟨hv1, hv3, hr3, hk3, hb3⟩ := hL2.appended (by decide) hown2 hB2 (by omega) hown' hgrow; have hO4 := (HO.out.alloc _).kept hgrow (HO.out.not_row (by decide) hown2); have cv3 := hv1.cell; have fv3 := hv1.frozen; have cO4 := hO4.cell; have fO4 := hO4.frozen)
      obtain ⟨V, hV⟩ : ∃ V, Value.slice (some ⟨g', 0, none⟩) (ls.length + 1) cap' = V := ⟨_, rfl⟩
      rw [hV] at hv3 hr3 hk3 hb3 ⊢
      have c4 : ∀ {B : Nat} {t : TypeId} {u : Value}, Boxed w1 B t u → ¬ t = 31 → B ≠ N → Boxed (w4.setCell ⟨N, 0, none⟩ V) B t u := fun h h1 h2 => ((h.alloc _).kept hgrow (h.not_row h1 hown2)).kept (grownBy_setCell' w4 N V) (fun e => h2 (Option.some.inj e))
      have xW := c4 HW.out (by decide) (by omega)
      have xF := c4 HF.out (by decide) (by omega)
      have xO := c4 HO.out (by decide) (by omega)
      have xA := c4 HAA.out (by decide) (by omega)
      have xC := c4 HCC.out (by decide) (by omega)
      have g2 := grownBy_setCell' (w4.setCell ⟨N, 0, none⟩ V) (N + 1 + 1) (.bool false)
      refine ⟨(HKF.out.trans (hk3.from _)).trans ((KeepsOthers.setCell _ ⟨N + 1 + 1, 0, none⟩ (.bool false)).from _), KpC.of_boxed ((HBK.out.trans hb3).setCell (by simp <;> omega) _) HA0.out (xA.kept g2 (by simp <;> omega)) HC0.out (xC.kept g2 (by simp <;> omega)), ?_, (HBE.out.trans hb3).setCell (by simp <;> omega) _⟩
      unfold InMinus
      rw [HS.out]
      exact ⟨xW.kept g2 (by simp <;> omega), ⟨_, hv3.kept g2 (by simp <;> omega), by rw [cellsS_append, List.length_append]; exact hr3.kept g2 (.inr (xO.not_row (by decide) hr3).symm), trivial⟩, xF.kept g2 (by simp <;> omega), xO.set _, xA.kept g2 (by simp <;> omega), xC.kept g2 (by simp <;> omega)⟩
    · have HS : Hid (run opD (pre ++ [(d, p, q)]) = ⟨ls, f, true⟩) := Lib.hid (by rw [HSN.out]; simp [stepC, ← HWN.out])
      have o1 := HOW.out.kept (grownBy_setCell' w1 (N + 1 + 1) (.bool true)) (.inr (HO.out.not_row (by decide) HOW.out).symm)
      have xW1 := HW.out.kept (grownBy_setCell' w1 (N + 1 + 1) (.bool true)) (by simp <;> omega)
      have xL1 := HL.out.kept (grownBy_setCell' w1 (N + 1 + 1) (.bool true)) (by simp <;> omega)
      have xF1 := HF.out.kept (grownBy_setCell' w1 (N + 1 + 1) (.bool true)) (by simp <;> omega)
      have xO1 := Boxed.set (.bool true) HO.out
      have xA1 := HAA.out.kept (grownBy_setCell' w1 (N + 1 + 1) (.bool true)) (by simp <;> omega)
      have xC1 := HCC.out.kept (grownBy_setCell' w1 (N + 1 + 1) (.bool true)) (by simp <;> omega)
      have l1 := HBE.out.setCell (p := ⟨N + 1 + 1, 0, none⟩) (by simp <;> omega) (.bool true)
      have m1 := HBK.out.setCell (p := ⟨N + 1 + 1, 0, none⟩) (by simp <;> omega) (.bool true)
      have k1 := HKF.out.trans ((KeepsOthers.setCell (w1) ⟨N + 1 + 1, 0, none⟩ (.bool true)).from w3.heap.size)
      have HZ : Hid (KeepsFrom w3.heap.size W (w1.setCell ⟨N + 1 + 1, 0, none⟩ (.bool true)) ∧ KpC w.heap.size (N + 1 + 1 + 1) (N + 1 + 1 + 1 + 1) W (w1.setCell ⟨N + 1 + 1, 0, none⟩ (.bool true)) ∧ InMinus w.heap.size N (.slice aa a.length ca) (.slice ab b.length cb) (pre ++ [(d, p, q)]) (w1.setCell ⟨N + 1 + 1, 0, none⟩ (.bool true)) ∧ Below w.heap.size w (w1.setCell ⟨N + 1 + 1, 0, none⟩ (.bool true))) := Lib.hid ⟨k1, KpC.of_boxed m1 HA0.out xA1 HC0.out xC1, by unfold InMinus; rw [HS.out]; exact ⟨xW1, ⟨v, xL1, o1, trivial⟩, xF1, xO1, xA1, xC1⟩, l1⟩
      clear xW1 xL1 xF1 xO1 xA1 xC1 o1 l1 m1 k1
      gi_wp2
      exact HZ.out
  case done =>
    rintro D ys W hD hS ⟨⟨hW, ⟨v, hL, hown, -⟩, hF, hO, hA, hC⟩, hB⟩ hK
    have hc : (run opD ys).l = comb opD a b := by rw [show ys = chgs a b from hS]; rfl
    rw [hc] at hown
    have cL := hL.cell
    have HOWN := Lib.hid hown
    clear hown hc hS hW hF hO hA hC
    have hsz := hb5.size
    gi_wp2
    refine ⟨by simp, .inl ⟨_, _, rfl, run_takeDeferred hK, ?_⟩⟩
    refine ⟨_, results_tmp2 rfl _ _ _, ⟨v, rfl, ownsRow_putObj HOWN.out _ hK rfl⟩, hB.trans (belowK_b (w := w) (Nat.le_refl _) W D _ _ (by omega) hK rfl rfl)⟩
  case stop =>
    rintro D c pre W _ _ h _
    exact h.elim

/-- A set that the call has made, with the days that are wanted. -/
theorem Minus_ok (va vb : Value) (a b : L) (ha : IsSet a) (hb : IsSet b) (w : World) (hla : Spn w va a) (hlb : Spn w vb b) :
    Calls Tryz.prog 16 #[va, vb] w (Gives (comb opD a b) w) := by
  have HC := Lib.hid (combine_Minus va vb a b ha hb w hla hlb)
  obtain ⟨aa, ca, rfl, -⟩ := hla
  obtain ⟨ab, cb, rfl, -⟩ := hlb
  clear ha hb
  go_enter Tryz.func16, Tryz.ntmps16
  go_wp2_with fail
  refine HC.out.mono ?_
  rintro e w1 ⟨⟨v, rfl, hown⟩, hb1⟩
  have HO := Lib.hid hown
  clear hown
  go_wp2
  go_ret2
  exact ⟨⟨v, rfl, HO.out⟩, hb1⟩
theorem Minus_no (va vb : Value) (a b : L) (h : ¬ (IsSet a ∧ IsSet b)) (w : World) (hla : Spn w va a) (hlb : Spn w vb b) :
    Calls Tryz.prog 16 #[va, vb] w (Says (.tuple #[.slice none 0 0, .int .i64 2]) w) := by
  have HC := Lib.hid (combine_no va vb 41 a b h w hla hlb)
  obtain ⟨aa, ca, rfl, -⟩ := hla
  obtain ⟨ab, cb, rfl, -⟩ := hlb
  clear h
  go_enter Tryz.func16, Tryz.ntmps16
  go_wp2_with fail
  refine HC.out.mono ?_
  rintro e w1 ⟨rfl, hb1⟩
  go_wp2
  go_ret2
  exact ⟨rfl, hb1⟩
end Go.Proofs.YtanlaejdibikiaaGreat
