/-
The iterator 'changes': it hands out the days at which membership changes, all of them in order, or a beginning of these.
-/
import Derived.Shelf.RegionOpen
import Derived.Deep.RegionHeld
import Derived.RangeFuncNested
import Derived.Test.YtanlaejdibikiaaGreatNth
namespace Go.Proofs.YtanlaejdibikiaaGreat
open Go.RowKit Go.Shelf Sp
attribute [local go_sem] Oper.semAt_some

/-- No operation of these is a defer statement. -/
def noDefer (ops : Array Oper) : Bool := ops.all fun o => match o.op with | .defer _ => false | _ => true

theorem rowsIn_wide {n : Nat} {P : Program} {row : String} {args : Array Value} {w : World} {R : Value → World → Prop} (h : Rows P row args w R) : RowsIn (Fence.wide) n P row args w R :=
  fun c cs _ => let ⟨v, w', r, s⟩ := h c cs; ⟨v, w', r, stepsIn_wide.2 s⟩

theorem anyIn_of_any {n : Nat} {P : Program} {md : Region.Mode} {ops : Array Oper} {Q : Exit → Act → World → Prop} (hnd : noDefer ops = true) (hL : ∀ a w, ¬ Q .outgrown a w) :
    ∀ (fuel : Nat) (listed : Array Bool) (a : Act) (w : World), wpAny P md ops Q fuel listed a w → wpAnyIn (Fence.wide) n P md ops Q fuel listed a w
  | 0, _, _, _, h => h
  | fuel + 1, listed, a, w, h => by
    refine ⟨h.1, fun i hi => ?_⟩
    have h1 := h.2 i hi
    have ih := anyIn_of_any (n := n) (P := P) (md := md) hnd hL fuel (listed.setIfInBounds i true)
    unfold wpOp at h1
    unfold wpOpIn
    cases ho : ops[i]? with
    | none => rw [ho] at h1; exact ih _ _ h1
    | some o =>
      rw [ho] at h1
      simp only at h1 ⊢
      have hd : ∀ c, o.op ≠ .defer c := fun c e => by
        have := (Array.all_eq_true.1 hnd) i (Array.getElem?_eq_some_iff.1 ho).1
        rw [(Array.getElem?_eq_some_iff.1 ho).2, e] at this
        cases this
      split
      · rename_i hw
        rw [if_pos hw] at h1
        rcases h1 with h1 | ⟨_, a', w', hlet⟩
        · refine ⟨fun _ _ => trivial, ?_⟩
          have es : o.semAt Fence.wide.round a.eval = execOp a.eval o := Oper.semAt_plain _ _ _ hd
          rw [es]
          unfold Oper.wp at h1
          generalize (execOp a.eval o).run P w = r at *
          cases r with
          | ok nx w' =>
            cases nx with
            | value v => exact ih _ _ h1
            | skip => exact ih _ _ h1
            | defer d => exact ih _ _ h1
            | enter f args =>
              refine ⟨fun e => (by simp [Fence.wide] at e), ?_⟩
              refine callsIn_wide.2 (Calls.mono h1 fun e w'' he => ?_)
              cases e with
              | returned u => exact ih _ _ he
              | panicked c => exact he
              | outgrown => exact he
            | row row args => exact ⟨fun e => (by simp [Fence.wide] at e), rowsIn_wide (Rows.mono h1 fun u w'' he => ih _ _ he)⟩
            | _ => exact absurd h1 (by simp [Oper.upon])
          | halt x w' =>
            cases x with
            | panic u => exact h1
            | _ => exact absurd h1 (by simp [Oper.upon])
        · exact absurd hlet (hL a' w')
      · rename_i hw
        rw [if_neg hw] at h1
        exact ⟨fun _ _ => trivial, ih _ _ h1⟩


abbrev Yd := Int × Bool × Bool
def encs (x : Yd) : Array Value := #[.int .i64 x.1, .agg #[.bool x.2.1, .bool x.2.2]]

/-- What a round of a loop over 'changes' keeps: what lies below block n₀, and the iterator's own boxes. -/
def KpC (n₀ Ba Bb : Nat) (W W' : World) : Prop := Below n₀ W W' ∧ (∀ v, W.cell? ⟨Ba, 0, none⟩ = some v → W'.cell? ⟨Ba, 0, none⟩ = some v) ∧ ∀ v, W.cell? ⟨Bb, 0, none⟩ = some v → W'.cell? ⟨Bb, 0, none⟩ = some v
theorem KpC.refl (n₀ Ba Bb : Nat) (W : World) : KpC n₀ Ba Bb W W := ⟨Below.refl _ _, fun _ h => h, fun _ h => h⟩
theorem KpC.trans {n₀ Ba Bb : Nat} {A B C : World} (h : KpC n₀ Ba Bb A B) (k : KpC n₀ Ba Bb B C) : KpC n₀ Ba Bb A C := ⟨h.1.trans k.1, fun v e => k.2.1 v (h.2.1 v e), fun v e => k.2.2 v (h.2.2 v e)⟩
theorem KpC.of_below {n₀ Ba Bb M : Nat} {A B : World} (h : Below M A B) (h1 : n₀ ≤ M) (h2 : Ba < M) (h3 : Bb < M) : KpC n₀ Ba Bb A B :=
  ⟨h.mono h1, fun _ e => (h.cell (p := ⟨Ba, 0, none⟩) h2).trans e, fun _ e => (h.cell (p := ⟨Bb, 0, none⟩) h3).trans e⟩
theorem KpC.drew (n₀ Ba Bb : Nat) (W : World) : KpC n₀ Ba Bb W W.drew := ⟨(Below.refl _ _).drew, fun _ h => h, fun _ h => h⟩
theorem KpC.putObj {n₀ Ba Bb : Nat} {w : World} (hn : n₀ ≤ w.heap.size) (W : World) (l : Nat) (o o' : Obj) (hl : w.heap.size ≤ l) (h : W.heap[l]? = some o) (h1 : o.isCells = false) (h2 : o.isWalk = false) : KpC n₀ Ba Bb W (W.putObj l o') :=
  ⟨belowK_b hn W l o o' hl h h1 h2, fun v e => cell_kept e (grownBy_putObj' W l o') (fun r er => by cases er; exact ⟨_, h, h1⟩), fun v e => cell_kept e (grownBy_putObj' W l o') (fun r er => by cases er; exact ⟨_, h, h1⟩)⟩
theorem KpC.setCell {n₀ Ba Bb : Nat} {W : World} {p : Addr} (u : Value) (h1 : n₀ ≤ p.block) (h2 : p.block ≠ Ba) (h3 : p.block ≠ Bb) : KpC n₀ Ba Bb W (W.setCell p u) :=
  ⟨(Below.refl _ _).setCell h1 u, fun v e => by rw [← e]; exact World.cell?_of_block (Below.heap_setCell W p u Ba (fun e => h2 e.symm)), fun v e => by rw [← e]; exact World.cell?_of_block (Below.heap_setCell W p u Bb (fun e => h3 e.symm))⟩

theorem grownBy_drew (W : World) (row : Option Nat) : W.grownBy W.drew row := ⟨rfl, rfl, rfl, Nat.le_refl _, fun _ _ _ => rfl⟩

def Sall (a b : L) (ys : List Yd) : Prop := ys = chgs a b
def Spre (a b : L) (ys : List Yd) : Prop := ∃ k, ys = (chgs a b).take k
/-- How the iterator comes back. -/
def ChOut (a b : L) (J Jx : List Yd → World → Prop) (e : Ending) (W' : World) : Prop := (∃ v, e = .returned v) ∧ ((∃ ys, Sall a b ys ∧ J ys W') ∨ (∃ pre, Spre a b pre ∧ Jx pre W'))
theorem od_int' (z : Int) (i : Nat) (h : z % 2 = (i : Int) % 2) : (z % 2 == 1) = od i := by rw [Bool.eq_iff_iff]; simp [od]; omega

/-- The next step of the sweep. -/
theorem chg_next {a b : L} {i j m : Nat} (h : i < 2 * a.length ∨ j < 2 * b.length) (hm : 2 * a.length + 2 * b.length ≤ m + i + j) (hi : i ≤ 2 * a.length) (hj : j ≤ 2 * b.length) :
    ∃ m', m = m' + 1 ∧ chg a b m i j = (nday a b i j, od (ni a b i j), od (nj a b i j)) :: chg a b m' (ni a b i j) (nj a b i j) := by
  obtain ⟨m', rfl⟩ : ∃ m', m = m' + 1 := ⟨m - 1, by omega⟩
  exact ⟨m', rfl, by rw [chg, if_pos h]⟩

set_option maxRecDepth 100000 in
set_option maxHeartbeats 8000000 in
theorem changes1_in (n : Nat) (hn : 1 ≤ n) (y Ba Bb n₀ : Nat) (va vb : Value) (a b : L) (ha : IsSet a) (hb : IsSet b) (wl : World) (hla : Spn wl va a) (hlb : Spn wl vb b) (hwl : wl.heap.size ≤ n₀) (J Jx : List Yd → World → Prop) (W : World) (hJ : AbidesFrom W.heap.size J)
    (hY : ∀ pre x W1, J pre W1 → pre.length < (chgs a b).length → YieldAt Fence.wide (n - 1) Tryz.prog y (encs x) W1 fun e W' =>
      (e = .returned (.bool true) ∧ J (pre ++ [x]) W' ∧ KpC n₀ Ba Bb W1 W') ∨ (e = .returned (.bool false) ∧ Jx (pre ++ [x]) W'))
    (hBa : W.cell? ⟨Ba, 0, none⟩ = some va) (hBb : W.cell? ⟨Bb, 0, none⟩ = some vb) (hW : Below wl.heap.size wl W) (h0 : J [] W) :
    CallsIn Fence.wide n Tryz.prog 55 #[.func (.yield y) #[] #[], .pointer (some ⟨Ba, 0, none⟩), .pointer (some ⟨Bb, 0, none⟩)] W (ChOut a b J Jx) := by
  have hbA := fun i (hi : i ≤ 2 * a.length) W' (h : Below wl.heap.size wl W') => bound_any va a i hi W' (hla.below h (Nat.le_refl _))
  have hbB := fun i (hi : i ≤ 2 * b.length) W' (h : Below wl.heap.size wl W') => bound_any vb b i hi W' (hlb.below h (Nat.le_refl _))
  have HA := Lib.hid hbA
  have HB := Lib.hid hbB
  have HJ := Lib.hid hJ
  have HW := Lib.hid hW
  obtain ⟨aa, ca, rfl, hla1, ⟨hla2, hla3, -⟩, -⟩ := hla
  obtain ⟨ab, cb, rfl, hlb1, ⟨hlb2, hlb3, -⟩, -⟩ := hlb
  clear hbA hbB hJ hW
  have HBA := Lib.hid hBa
  have HBB := Lib.hid hBb
  clear hBa hBb
  refine callsIn_of_wp Tryz.func55 rfl trivial ?_ rfl
  simp only [Tryz.ntmps55, List.size_toArray, List.length_cons, List.length_nil, Nat.reduceAdd, Nat.reduceSub, Array.replicate_succ, Array.replicate_zero, List.push_toArray, List.append_toArray, List.nil_append, List.cons_append]
  gi_wp2
  gi_loopw [4, 5] (fun p q wr => ∃ (i j m : Nat) (pre : List Yd), i ≤ 2 * a.length ∧ j ≤ 2 * b.length ∧ 2 * a.length + 2 * b.length ≤ m + i + j ∧ p = .int .i64 i ∧ q = .int .i64 j ∧ Hid (pre ++ chg a b m i j = chgs a b) ∧ J pre wr ∧ KpC n₀ Ba Bb W wr)
    (fun p q _ => 2 * a.length + 2 * b.length - ((intOf p).toNat + (intOf q).toNat))
  case atStart => exact ⟨0, 0, 2 * a.length + 2 * b.length, [], by omega, by omega, by omega, rfl, rfl, Lib.hid rfl, h0, KpC.refl _ _ _ _⟩
  case round =>
    obtain ⟨i, j, m, pre, hi, hj, hm, rfl, rfl, HP, hJs, hk⟩ := hrel
    have cA := hk.2.1 _ HBA.out
    have cB := hk.2.2 _ HBB.out
    have hWr : Below wl.heap.size wl wr := HW.out.trans (hk.1.mono hwl)
    by_cases hmore : i < 2 * a.length ∨ j < 2 * b.length
    · have x1 := bnd_bd' ha i
      have x2 := bnd_bd' hb j
      obtain ⟨x, hx⟩ : ∃ x, x = bnd a i := ⟨_, rfl⟩
      obtain ⟨yb, hyb⟩ : ∃ y, y = bnd b j := ⟨_, rfl⟩
      have HX := Lib.hid hx
      have HYb := Lib.hid hyb
      have hA2 := fun W' h => HA.out i hi W' h
      have hB2 := fun W' h => HB.out j hj W' h
      rw [← hx] at x1 hA2
      rw [← hyb] at x2 hB2
      have HA2 := Lib.hid hA2
      have HB2 := Lib.hid hB2
      clear hx hyb hA2 hB2
      by_cases hi0 : i < 2 * a.length
      · have t1 : (i : Int) < 2 * (a.length : Int) := by omega
        rcases Int.lt_trichotomy x yb with hxy | hxy | hxy
        · have e1 : nday a b i j = x := by unfold nday; rw [← HX.out, ← HYb.out]; omega
          have e2 : ni a b i j = i + 1 := by unfold ni; rw [e1, ← HX.out]; exact if_pos rfl
          have e3 : nj a b i j = j := by unfold nj; rw [e1, ← HYb.out]; exact if_neg (by omega)
          obtain ⟨m', rfl, hc⟩ := chg_next hmore hm hi hj
          rw [e1, e2, e3] at hc
          have HN : Hid (pre ++ [(x, od (i + 1), od (j))] ++ chg a b m' (i + 1) (j) = chgs a b) := Lib.hid (by rw [← HP.out, hc, List.append_assoc]; rfl)
          have hlen : pre.length < (chgs a b).length := by rw [← HP.out, hc]; simp
          have hpre : Spre a b (pre ++ [(x, od (i + 1), od (j))]) := ⟨pre.length + 1, by rw [← HN.out, List.take_left' (by simp)]⟩
          have HPR := Lib.hid hpre
          have oa : (((i : Int) + 1) % 2 == 1) = od (i + 1) := od_int' _ _ (by omega)
          have ob : ((j : Int) % 2 == 1) = od (j) := od_int' _ _ (by omega)
          obtain ⟨qa, hqa⟩ : ∃ q, q = od (i + 1) := ⟨_, rfl⟩
          obtain ⟨qb, hqb⟩ : ∃ q, q = od (j) := ⟨_, rfl⟩
          rw [← hqa] at oa HN HPR
          rw [← hqb] at ob HN HPR
          clear hqa hqb
          obtain ⟨fn, tmps, assign, body, hy, hR⟩ := hY pre (x, qa, qb) wr.drew (HJ.out _ _ _ none hJs (grownBy_drew wr none) (fun _ e => by cases e)) hlen
          dsimp only [encs] at hy
          have HR := Lib.hid hR
          obtain ⟨hi2, hj2, hgo, -⟩ := step_le ha hb hi hj hmore
          rw [e2] at hi2 hgo
          rw [e3] at hj2 hgo
          have l1 : (yb == x) = false := by simp; omega
          have l2 : ¬ yb < x := by omega
          clear hc e1 e2 e3 hR hlen hpre HP HJ HX HYb
          gi_wp2_with fail
          refine wpIn_region_any (by kernel_rfl) ?_
          refine anyIn_of_any (by kernel_rfl) (fun _ _ h => by obtain ⟨⟨v, hv⟩, _⟩ := h; cases hv) _ _ _ _ (wpAny_of_held (S := (fun w' => w'.cell? ⟨Ba, 0, none⟩ = some (.slice aa a.length ca) ∧ w'.cell? ⟨Bb, 0, none⟩ = some (.slice ab b.length cb))) _ _ _ _ ?_)
          have hR0 := (show wr.drew.cell? ⟨Ba, 0, none⟩ = some (.slice aa a.length ca) ∧ wr.drew.cell? ⟨Bb, 0, none⟩ = some (.slice ab b.length cb) from ⟨cA, cB⟩)
          change wpAnyH _ _ _ _ _ 8 #[false, false, false, false, false, false, false, false] _ (wr.drew)
          refine wpAnyH_take (i := 0) (oi := { dst := some 21, op := Op.load 22 (Operand.tmp 1), type := 22, pos := "sweep.go:35", after := #[], guard := none }) (v := ?_) rfl (by kernel_rfl) (by kernel_rfl) (by kernel_rfl) (fun _ _ _ h => h) (Or.inl ⟨by rfl, ?_⟩) (by assumption) ?_
          rotate_left 1
          · (intro w hSw; (try dsimp only at hSw); go_simp <;> (with_reducible rfl))
          (first | ((fail_if_success (unfold Act.put)); (try simp only [List.setIfInBounds_toArray, List.set_cons_zero, List.set_cons_succ])) | (try simp only [Act.put, List.setIfInBounds_toArray, List.set_cons_zero, List.set_cons_succ]))
          refine wpAnyH_take (i := 1) (oi := { dst := some 22, op := Op.move (Operand.tmp 4), type := 3, pos := "sweep.go:35", after := #[], guard := none }) (v := ?_) rfl (by kernel_rfl) (by kernel_rfl) (by kernel_rfl) (fun _ _ _ h => h) (Or.inl ⟨by rfl, ?_⟩) (by assumption) ?_
          rotate_left 1
          · (intro w hSw; (try dsimp only at hSw); go_simp <;> (with_reducible rfl))
          (first | ((fail_if_success (unfold Act.put)); (try simp only [List.setIfInBounds_toArray, List.set_cons_zero, List.set_cons_succ])) | (try simp only [Act.put, List.setIfInBounds_toArray, List.set_cons_zero, List.set_cons_succ]))
          refine wpAnyH_take (i := 3) (oi := { dst := some 24, op := Op.load 22 (Operand.tmp 2), type := 22, pos := "sweep.go:35", after := #[], guard := none }) (v := ?_) rfl (by kernel_rfl) (by kernel_rfl) (by kernel_rfl) (fun _ _ _ h => h) (Or.inl ⟨by rfl, ?_⟩) (by assumption) ?_
          rotate_left 1
          · (intro w hSw; (try dsimp only at hSw); go_simp <;> (with_reducible rfl))
          (first | ((fail_if_success (unfold Act.put)); (try simp only [List.setIfInBounds_toArray, List.set_cons_zero, List.set_cons_succ])) | (try simp only [Act.put, List.setIfInBounds_toArray, List.set_cons_zero, List.set_cons_succ]))
          refine wpAnyH_take (i := 4) (oi := { dst := some 25, op := Op.move (Operand.tmp 5), type := 3, pos := "sweep.go:35", after := #[], guard := none }) (v := ?_) rfl (by kernel_rfl) (by kernel_rfl) (by kernel_rfl) (fun _ _ _ h => h) (Or.inl ⟨by rfl, ?_⟩) (by assumption) ?_
          rotate_left 1
          · (intro w hSw; (try dsimp only at hSw); go_simp <;> (with_reducible rfl))
          (first | ((fail_if_success (unfold Act.put)); (try simp only [List.setIfInBounds_toArray, List.set_cons_zero, List.set_cons_succ])) | (try simp only [Act.put, List.setIfInBounds_toArray, List.set_cons_zero, List.set_cons_succ]))
          refine wpAnyH_ready (rs := [2]) (by kernel_rfl) (by simp) ?_
          refine AllReadyH.cons (o := { dst := some 23, op := Op.call { callee := Callee.value (Operand.func 56), args := #[Operand.tmp 21, Operand.tmp 22], argTypes := #[22, 3] }, type := 3, pos := "sweep.go:35", after := #[{ on := 0, ground := Ground.data }, { on := 1, ground := Ground.data }], guard := none }) rfl (fun K hK => ?_) AllReadyH.nil
          go_simp
          go_at_call 56; refine (HA2.out _ hWr.drew).mono ?_; rintro e w' ⟨rfl, rfl⟩
          (try go_wp2_with fail)
          refine hK.out _ _ (hR0) (fun hR1 => ?_)
          clear hK K hR0
          (first | ((fail_if_success (unfold Act.put)); (try simp only [List.setIfInBounds_toArray, List.set_cons_zero, List.set_cons_succ])) | (try simp only [Act.put, List.setIfInBounds_toArray, List.set_cons_zero, List.set_cons_succ]))
          refine wpAnyH_ready (rs := [5]) (by kernel_rfl) (by simp) ?_
          refine AllReadyH.cons (o := { dst := some 26, op := Op.call { callee := Callee.value (Operand.func 56), args := #[Operand.tmp 24, Operand.tmp 25], argTypes := #[22, 3] }, type := 3, pos := "sweep.go:35", after := #[{ on := 3, ground := Ground.data }, { on := 4, ground := Ground.data }, { on := 2, ground := Ground.chain }], guard := none }) rfl (fun K hK => ?_) AllReadyH.nil
          go_simp
          go_at_call 56; refine (HB2.out _ hWr.drew).mono ?_; rintro e w' ⟨rfl, rfl⟩
          (try go_wp2_with fail)
          refine hK.out _ _ (hR1) (fun hR2 => ?_)
          clear hK K hR1
          (first | ((fail_if_success (unfold Act.put)); (try simp only [List.setIfInBounds_toArray, List.set_cons_zero, List.set_cons_succ])) | (try simp only [Act.put, List.setIfInBounds_toArray, List.set_cons_zero, List.set_cons_succ]))
          refine wpAnyH_take (i := 6) (oi := { dst := some 6, op := Op.assign (Operand.tmp 23), type := 3, pos := "sweep.go:35", after := #[{ on := 2, ground := Ground.data }, { on := 5, ground := Ground.chain }, { on := 0, ground := Ground.phase }, { on := 1, ground := Ground.phase }, { on := 2, ground := Ground.phase }, { on := 3, ground := Ground.textOnly Departure.lateStores }, { on := 4, ground := Ground.textOnly Departure.lateStores }, { on := 5, ground := Ground.textOnly Departure.lateStoresUnsure }], guard := none }) (v := ?_) rfl (by kernel_rfl) (by kernel_rfl) (by kernel_rfl) (fun _ _ _ h => h) (Or.inl ⟨by rfl, ?_⟩) (by assumption) ?_
          rotate_left 1
          · (intro w hSw; (try dsimp only at hSw); go_simp <;> (with_reducible rfl))
          (first | ((fail_if_success (unfold Act.put)); (try simp only [List.setIfInBounds_toArray, List.set_cons_zero, List.set_cons_succ])) | (try simp only [Act.put, List.setIfInBounds_toArray, List.set_cons_zero, List.set_cons_succ]))
          refine wpAnyH_take (i := 7) (oi := { dst := some 7, op := Op.assign (Operand.tmp 26), type := 3, pos := "sweep.go:35", after := #[{ on := 5, ground := Ground.data }, { on := 6, ground := Ground.chain }, { on := 0, ground := Ground.phase }, { on := 1, ground := Ground.phase }, { on := 2, ground := Ground.phase }, { on := 3, ground := Ground.phase }, { on := 4, ground := Ground.phase }, { on := 5, ground := Ground.phase }, { on := 6, ground := Ground.phase }], guard := none }) (v := ?_) rfl (by kernel_rfl) (by kernel_rfl) (by kernel_rfl) (fun _ _ _ h => h) (Or.inl ⟨by rfl, ?_⟩) (by assumption) ?_
          rotate_left 1
          · (intro w hSw; (try dsimp only at hSw); go_simp <;> (with_reducible rfl))
          (first | ((fail_if_success (unfold Act.put)); (try simp only [List.setIfInBounds_toArray, List.set_cons_zero, List.set_cons_succ])) | (try simp only [Act.put, List.setIfInBounds_toArray, List.set_cons_zero, List.set_cons_succ]))
          refine wpAnyH_done (by kernel_rfl) ?_ _
          clear hR2
          gi_wp2
          refine HR.out.mono ?_
          rintro e W3 (⟨rfl, hJ3, hk3⟩ | ⟨rfl, hJx3⟩)
          · gi_wp2
            go_roundw
            case rel => exact ⟨i + 1, j, m', _, hi2, hj2, by omega, by go_num, by go_num, HN, hJ3, hk.trans ((KpC.drew _ _ _ _).trans hk3)⟩
            case measure => simp [intOf]; omega
          · gi_wp2
            refine bodyPost_ret (results_none rfl _ _ _) rfl ?_
            exact ⟨⟨_, rfl⟩, .inr ⟨_, HPR.out, hJx3⟩⟩
        · have e1 : nday a b i j = x := by unfold nday; rw [← HX.out, ← HYb.out]; omega
          have e2 : ni a b i j = i + 1 := by unfold ni; rw [e1, ← HX.out]; exact if_pos rfl
          have e3 : nj a b i j = j + 1 := by unfold nj; rw [e1, ← HYb.out]; exact if_pos (by omega)
          obtain ⟨m', rfl, hc⟩ := chg_next hmore hm hi hj
          rw [e1, e2, e3] at hc
          have HN : Hid (pre ++ [(x, od (i + 1), od (j + 1))] ++ chg a b m' (i + 1) (j + 1) = chgs a b) := Lib.hid (by rw [← HP.out, hc, List.append_assoc]; rfl)
          have hlen : pre.length < (chgs a b).length := by rw [← HP.out, hc]; simp
          have hpre : Spre a b (pre ++ [(x, od (i + 1), od (j + 1))]) := ⟨pre.length + 1, by rw [← HN.out, List.take_left' (by simp)]⟩
          have HPR := Lib.hid hpre
          have oa : (((i : Int) + 1) % 2 == 1) = od (i + 1) := od_int' _ _ (by omega)
          have ob : (((j : Int) + 1) % 2 == 1) = od (j + 1) := od_int' _ _ (by omega)
          obtain ⟨qa, hqa⟩ : ∃ q, q = od (i + 1) := ⟨_, rfl⟩
          obtain ⟨qb, hqb⟩ : ∃ q, q = od (j + 1) := ⟨_, rfl⟩
          rw [← hqa] at oa HN HPR
          rw [← hqb] at ob HN HPR
          clear hqa hqb
          obtain ⟨fn, tmps, assign, body, hy, hR⟩ := hY pre (x, qa, qb) wr.drew (HJ.out _ _ _ none hJs (grownBy_drew wr none) (fun _ e => by cases e)) hlen
          dsimp only [encs] at hy
          have HR := Lib.hid hR
          obtain ⟨hi2, hj2, hgo, -⟩ := step_le ha hb hi hj hmore
          rw [e2] at hi2 hgo
          rw [e3] at hj2 hgo
          have l1 : (yb == x) = true := by simp; omega
          have l2 : ¬ yb < x := by omega
          subst hxy
          clear hc e1 e2 e3 hR hlen hpre HP HJ HX HYb
          gi_wp2_with fail
          refine wpIn_region_any (by kernel_rfl) ?_
          refine anyIn_of_any (by kernel_rfl) (fun _ _ h => by obtain ⟨⟨v, hv⟩, _⟩ := h; cases hv) _ _ _ _ (wpAny_of_held (S := (fun w' => w'.cell? ⟨Ba, 0, none⟩ = some (.slice aa a.length ca) ∧ w'.cell? ⟨Bb, 0, none⟩ = some (.slice ab b.length cb))) _ _ _ _ ?_)
          have hR0 := (show wr.drew.cell? ⟨Ba, 0, none⟩ = some (.slice aa a.length ca) ∧ wr.drew.cell? ⟨Bb, 0, none⟩ = some (.slice ab b.length cb) from ⟨cA, cB⟩)
          change wpAnyH _ _ _ _ _ 8 #[false, false, false, false, false, false, false, false] _ (wr.drew)
          refine wpAnyH_take (i := 0) (oi := { dst := some 21, op := Op.load 22 (Operand.tmp 1), type := 22, pos := "sweep.go:35", after := #[], guard := none }) (v := ?_) rfl (by kernel_rfl) (by kernel_rfl) (by kernel_rfl) (fun _ _ _ h => h) (Or.inl ⟨by rfl, ?_⟩) (by assumption) ?_
          rotate_left 1
          · (intro w hSw; (try dsimp only at hSw); go_simp <;> (with_reducible rfl))
          (first | ((fail_if_success (unfold Act.put)); (try simp only [List.setIfInBounds_toArray, List.set_cons_zero, List.set_cons_succ])) | (try simp only [Act.put, List.setIfInBounds_toArray, List.set_cons_zero, List.set_cons_succ]))
          refine wpAnyH_take (i := 1) (oi := { dst := some 22, op := Op.move (Operand.tmp 4), type := 3, pos := "sweep.go:35", after := #[], guard := none }) (v := ?_) rfl (by kernel_rfl) (by kernel_rfl) (by kernel_rfl) (fun _ _ _ h => h) (Or.inl ⟨by rfl, ?_⟩) (by assumption) ?_
          rotate_left 1
          · (intro w hSw; (try dsimp only at hSw); go_simp <;> (with_reducible rfl))
          (first | ((fail_if_success (unfold Act.put)); (try simp only [List.setIfInBounds_toArray, List.set_cons_zero, List.set_cons_succ])) | (try simp only [Act.put, List.setIfInBounds_toArray, List.set_cons_zero, List.set_cons_succ]))
          refine wpAnyH_take (i := 3) (oi := { dst := some 24, op := Op.load 22 (Operand.tmp 2), type := 22, pos := "sweep.go:35", after := #[], guard := none }) (v := ?_) rfl (by kernel_rfl) (by kernel_rfl) (by kernel_rfl) (fun _ _ _ h => h) (Or.inl ⟨by rfl, ?_⟩) (by assumption) ?_
          rotate_left 1
          · (intro w hSw; (try dsimp only at hSw); go_simp <;> (with_reducible rfl))
          (first | ((fail_if_success (unfold Act.put)); (try simp only [List.setIfInBounds_toArray, List.set_cons_zero, List.set_cons_succ])) | (try simp only [Act.put, List.setIfInBounds_toArray, List.set_cons_zero, List.set_cons_succ]))
          refine wpAnyH_take (i := 4) (oi := { dst := some 25, op := Op.move (Operand.tmp 5), type := 3, pos := "sweep.go:35", after := #[], guard := none }) (v := ?_) rfl (by kernel_rfl) (by kernel_rfl) (by kernel_rfl) (fun _ _ _ h => h) (Or.inl ⟨by rfl, ?_⟩) (by assumption) ?_
          rotate_left 1
          · (intro w hSw; (try dsimp only at hSw); go_simp <;> (with_reducible rfl))
          (first | ((fail_if_success (unfold Act.put)); (try simp only [List.setIfInBounds_toArray, List.set_cons_zero, List.set_cons_succ])) | (try simp only [Act.put, List.setIfInBounds_toArray, List.set_cons_zero, List.set_cons_succ]))
          refine wpAnyH_ready (rs := [2]) (by kernel_rfl) (by simp) ?_
          refine AllReadyH.cons (o := { dst := some 23, op := Op.call { callee := Callee.value (Operand.func 56), args := #[Operand.tmp 21, Operand.tmp 22], argTypes := #[22, 3] }, type := 3, pos := "sweep.go:35", after := #[{ on := 0, ground := Ground.data }, { on := 1, ground := Ground.data }], guard := none }) rfl (fun K hK => ?_) AllReadyH.nil
          go_simp
          go_at_call 56; refine (HA2.out _ hWr.drew).mono ?_; rintro e w' ⟨rfl, rfl⟩
          (try go_wp2_with fail)
          refine hK.out _ _ (hR0) (fun hR1 => ?_)
          clear hK K hR0
          (first | ((fail_if_success (unfold Act.put)); (try simp only [List.setIfInBounds_toArray, List.set_cons_zero, List.set_cons_succ])) | (try simp only [Act.put, List.setIfInBounds_toArray, List.set_cons_zero, List.set_cons_succ]))
          refine wpAnyH_ready (rs := [5]) (by kernel_rfl) (by simp) ?_
          refine AllReadyH.cons (o := { dst := some 26, op := Op.call { callee := Callee.value (Operand.func 56), args := #[Operand.tmp 24, Operand.tmp 25], argTypes := #[22, 3] }, type := 3, pos := "sweep.go:35", after := #[{ on := 3, ground := Ground.data }, { on := 4, ground := Ground.data }, { on := 2, ground := Ground.chain }], guard := none }) rfl (fun K hK => ?_) AllReadyH.nil
          go_simp
          go_at_call 56; refine (HB2.out _ hWr.drew).mono ?_; rintro e w' ⟨rfl, rfl⟩
          (try go_wp2_with fail)
          refine hK.out _ _ (hR1) (fun hR2 => ?_)
          clear hK K hR1
          (first | ((fail_if_success (unfold Act.put)); (try simp only [List.setIfInBounds_toArray, List.set_cons_zero, List.set_cons_succ])) | (try simp only [Act.put, List.setIfInBounds_toArray, List.set_cons_zero, List.set_cons_succ]))
          refine wpAnyH_take (i := 6) (oi := { dst := some 6, op := Op.assign (Operand.tmp 23), type := 3, pos := "sweep.go:35", after := #[{ on := 2, ground := Ground.data }, { on := 5, ground := Ground.chain }, { on := 0, ground := Ground.phase }, { on := 1, ground := Ground.phase }, { on := 2, ground := Ground.phase }, { on := 3, ground := Ground.textOnly Departure.lateStores }, { on := 4, ground := Ground.textOnly Departure.lateStores }, { on := 5, ground := Ground.textOnly Departure.lateStoresUnsure }], guard := none }) (v := ?_) rfl (by kernel_rfl) (by kernel_rfl) (by kernel_rfl) (fun _ _ _ h => h) (Or.inl ⟨by rfl, ?_⟩) (by assumption) ?_
          rotate_left 1
          · (intro w hSw; (try dsimp only at hSw); go_simp <;> (with_reducible rfl))
          (first | ((fail_if_success (unfold Act.put)); (try simp only [List.setIfInBounds_toArray, List.set_cons_zero, List.set_cons_succ])) | (try simp only [Act.put, List.setIfInBounds_toArray, List.set_cons_zero, List.set_cons_succ]))
          refine wpAnyH_take (i := 7) (oi := { dst := some 7, op := Op.assign (Operand.tmp 26), type := 3, pos := "sweep.go:35", after := #[{ on := 5, ground := Ground.data }, { on := 6, ground := Ground.chain }, { on := 0, ground := Ground.phase }, { on := 1, ground := Ground.phase }, { on := 2, ground := Ground.phase }, { on := 3, ground := Ground.phase }, { on := 4, ground := Ground.phase }, { on := 5, ground := Ground.phase }, { on := 6, ground := Ground.phase }], guard := none }) (v := ?_) rfl (by kernel_rfl) (by kernel_rfl) (by kernel_rfl) (fun _ _ _ h => h) (Or.inl ⟨by rfl, ?_⟩) (by assumption) ?_
          rotate_left 1
          · (intro w hSw; (try dsimp only at hSw); go_simp <;> (with_reducible rfl))
          (first | ((fail_if_success (unfold Act.put)); (try simp only [List.setIfInBounds_toArray, List.set_cons_zero, List.set_cons_succ])) | (try simp only [Act.put, List.setIfInBounds_toArray, List.set_cons_zero, List.set_cons_succ]))
          refine wpAnyH_done (by kernel_rfl) ?_ _
          clear hR2
          gi_wp2
          refine HR.out.mono ?_
          rintro e W3 (⟨rfl, hJ3, hk3⟩ | ⟨rfl, hJx3⟩)
          · gi_wp2
            go_roundw
            case rel => exact ⟨i + 1, j + 1, m', _, hi2, hj2, by omega, by go_num, by go_num, HN, hJ3, hk.trans ((KpC.drew _ _ _ _).trans hk3)⟩
            case measure => simp [intOf]; omega
          · gi_wp2
            refine bodyPost_ret (results_none rfl _ _ _) rfl ?_
            exact ⟨⟨_, rfl⟩, .inr ⟨_, HPR.out, hJx3⟩⟩
        · have e1 : nday a b i j = yb := by unfold nday; rw [← HX.out, ← HYb.out]; omega
          have e2 : ni a b i j = i := by unfold ni; rw [e1, ← HX.out]; exact if_neg (by omega)
          have e3 : nj a b i j = j + 1 := by unfold nj; rw [e1, ← HYb.out]; exact if_pos rfl
          obtain ⟨m', rfl, hc⟩ := chg_next hmore hm hi hj
          rw [e1, e2, e3] at hc
          have HN : Hid (pre ++ [(yb, od (i), od (j + 1))] ++ chg a b m' (i) (j + 1) = chgs a b) := Lib.hid (by rw [← HP.out, hc, List.append_assoc]; rfl)
          have hlen : pre.length < (chgs a b).length := by rw [← HP.out, hc]; simp
          have hpre : Spre a b (pre ++ [(yb, od (i), od (j + 1))]) := ⟨pre.length + 1, by rw [← HN.out, List.take_left' (by simp)]⟩
          have HPR := Lib.hid hpre
          have oa : ((i : Int) % 2 == 1) = od (i) := od_int' _ _ (by omega)
          have ob : (((j : Int) + 1) % 2 == 1) = od (j + 1) := od_int' _ _ (by omega)
          obtain ⟨qa, hqa⟩ : ∃ q, q = od (i) := ⟨_, rfl⟩
          obtain ⟨qb, hqb⟩ : ∃ q, q = od (j + 1) := ⟨_, rfl⟩
          rw [← hqa] at oa HN HPR
          rw [← hqb] at ob HN HPR
          clear hqa hqb
          obtain ⟨fn, tmps, assign, body, hy, hR⟩ := hY pre (yb, qa, qb) wr.drew (HJ.out _ _ _ none hJs (grownBy_drew wr none) (fun _ e => by cases e)) hlen
          dsimp only [encs] at hy
          have HR := Lib.hid hR
          obtain ⟨hi2, hj2, hgo, -⟩ := step_le ha hb hi hj hmore
          rw [e2] at hi2 hgo
          rw [e3] at hj2 hgo
          have l1 : (x == yb) = false := by simp; omega
          clear hc e1 e2 e3 hR hlen hpre HP HJ HX HYb
          gi_wp2_with fail
          refine wpIn_region_any (by kernel_rfl) ?_
          refine anyIn_of_any (by kernel_rfl) (fun _ _ h => by obtain ⟨⟨v, hv⟩, _⟩ := h; cases hv) _ _ _ _ (wpAny_of_held (S := (fun w' => w'.cell? ⟨Ba, 0, none⟩ = some (.slice aa a.length ca) ∧ w'.cell? ⟨Bb, 0, none⟩ = some (.slice ab b.length cb))) _ _ _ _ ?_)
          have hR0 := (show wr.drew.cell? ⟨Ba, 0, none⟩ = some (.slice aa a.length ca) ∧ wr.drew.cell? ⟨Bb, 0, none⟩ = some (.slice ab b.length cb) from ⟨cA, cB⟩)
          change wpAnyH _ _ _ _ _ 8 #[false, false, false, false, false, false, false, false] _ (wr.drew)
          refine wpAnyH_take (i := 0) (oi := { dst := some 21, op := Op.load 22 (Operand.tmp 1), type := 22, pos := "sweep.go:35", after := #[], guard := none }) (v := ?_) rfl (by kernel_rfl) (by kernel_rfl) (by kernel_rfl) (fun _ _ _ h => h) (Or.inl ⟨by rfl, ?_⟩) (by assumption) ?_
          rotate_left 1
          · (intro w hSw; (try dsimp only at hSw); go_simp <;> (with_reducible rfl))
          (first | ((fail_if_success (unfold Act.put)); (try simp only [List.setIfInBounds_toArray, List.set_cons_zero, List.set_cons_succ])) | (try simp only [Act.put, List.setIfInBounds_toArray, List.set_cons_zero, List.set_cons_succ]))
          refine wpAnyH_take (i := 1) (oi := { dst := some 22, op := Op.move (Operand.tmp 4), type := 3, pos := "sweep.go:35", after := #[], guard := none }) (v := ?_) rfl (by kernel_rfl) (by kernel_rfl) (by kernel_rfl) (fun _ _ _ h => h) (Or.inl ⟨by rfl, ?_⟩) (by assumption) ?_
          rotate_left 1
          · (intro w hSw; (try dsimp only at hSw); go_simp <;> (with_reducible rfl))
          (first | ((fail_if_success (unfold Act.put)); (try simp only [List.setIfInBounds_toArray, List.set_cons_zero, List.set_cons_succ])) | (try simp only [Act.put, List.setIfInBounds_toArray, List.set_cons_zero, List.set_cons_succ]))
          refine wpAnyH_take (i := 3) (oi := { dst := some 24, op := Op.load 22 (Operand.tmp 2), type := 22, pos := "sweep.go:35", after := #[], guard := none }) (v := ?_) rfl (by kernel_rfl) (by kernel_rfl) (by kernel_rfl) (fun _ _ _ h => h) (Or.inl ⟨by rfl, ?_⟩) (by assumption) ?_
          rotate_left 1
          · (intro w hSw; (try dsimp only at hSw); go_simp <;> (with_reducible rfl))
          (first | ((fail_if_success (unfold Act.put)); (try simp only [List.setIfInBounds_toArray, List.set_cons_zero, List.set_cons_succ])) | (try simp only [Act.put, List.setIfInBounds_toArray, List.set_cons_zero, List.set_cons_succ]))
          refine wpAnyH_take (i := 4) (oi := { dst := some 25, op := Op.move (Operand.tmp 5), type := 3, pos := "sweep.go:35", after := #[], guard := none }) (v := ?_) rfl (by kernel_rfl) (by kernel_rfl) (by kernel_rfl) (fun _ _ _ h => h) (Or.inl ⟨by rfl, ?_⟩) (by assumption) ?_
          rotate_left 1
          · (intro w hSw; (try dsimp only at hSw); go_simp <;> (with_reducible rfl))
          (first | ((fail_if_success (unfold Act.put)); (try simp only [List.setIfInBounds_toArray, List.set_cons_zero, List.set_cons_succ])) | (try simp only [Act.put, List.setIfInBounds_toArray, List.set_cons_zero, List.set_cons_succ]))
          refine wpAnyH_ready (rs := [2]) (by kernel_rfl) (by simp) ?_
          refine AllReadyH.cons (o := { dst := some 23, op := Op.call { callee := Callee.value (Operand.func 56), args := #[Operand.tmp 21, Operand.tmp 22], argTypes := #[22, 3] }, type := 3, pos := "sweep.go:35", after := #[{ on := 0, ground := Ground.data }, { on := 1, ground := Ground.data }], guard := none }) rfl (fun K hK => ?_) AllReadyH.nil
          go_simp
          go_at_call 56; refine (HA2.out _ hWr.drew).mono ?_; rintro e w' ⟨rfl, rfl⟩
          (try go_wp2_with fail)
          refine hK.out _ _ (hR0) (fun hR1 => ?_)
          clear hK K hR0
          (first | ((fail_if_success (unfold Act.put)); (try simp only [List.setIfInBounds_toArray, List.set_cons_zero, List.set_cons_succ])) | (try simp only [Act.put, List.setIfInBounds_toArray, List.set_cons_zero, List.set_cons_succ]))
          refine wpAnyH_ready (rs := [5]) (by kernel_rfl) (by simp) ?_
          refine AllReadyH.cons (o := { dst := some 26, op := Op.call { callee := Callee.value (Operand.func 56), args := #[Operand.tmp 24, Operand.tmp 25], argTypes := #[22, 3] }, type := 3, pos := "sweep.go:35", after := #[{ on := 3, ground := Ground.data }, { on := 4, ground := Ground.data }, { on := 2, ground := Ground.chain }], guard := none }) rfl (fun K hK => ?_) AllReadyH.nil
          go_simp
          go_at_call 56; refine (HB2.out _ hWr.drew).mono ?_; rintro e w' ⟨rfl, rfl⟩
          (try go_wp2_with fail)
          refine hK.out _ _ (hR1) (fun hR2 => ?_)
          clear hK K hR1
          (first | ((fail_if_success (unfold Act.put)); (try simp only [List.setIfInBounds_toArray, List.set_cons_zero, List.set_cons_succ])) | (try simp only [Act.put, List.setIfInBounds_toArray, List.set_cons_zero, List.set_cons_succ]))
          refine wpAnyH_take (i := 6) (oi := { dst := some 6, op := Op.assign (Operand.tmp 23), type := 3, pos := "sweep.go:35", after := #[{ on := 2, ground := Ground.data }, { on := 5, ground := Ground.chain }, { on := 0, ground := Ground.phase }, { on := 1, ground := Ground.phase }, { on := 2, ground := Ground.phase }, { on := 3, ground := Ground.textOnly Departure.lateStores }, { on := 4, ground := Ground.textOnly Departure.lateStores }, { on := 5, ground := Ground.textOnly Departure.lateStoresUnsure }], guard := none }) (v := ?_) rfl (by kernel_rfl) (by kernel_rfl) (by kernel_rfl) (fun _ _ _ h => h) (Or.inl ⟨by rfl, ?_⟩) (by assumption) ?_
          rotate_left 1
          · (intro w hSw; (try dsimp only at hSw); go_simp <;> (with_reducible rfl))
          (first | ((fail_if_success (unfold Act.put)); (try simp only [List.setIfInBounds_toArray, List.set_cons_zero, List.set_cons_succ])) | (try simp only [Act.put, List.setIfInBounds_toArray, List.set_cons_zero, List.set_cons_succ]))
          refine wpAnyH_take (i := 7) (oi := { dst := some 7, op := Op.assign (Operand.tmp 26), type := 3, pos := "sweep.go:35", after := #[{ on := 5, ground := Ground.data }, { on := 6, ground := Ground.chain }, { on := 0, ground := Ground.phase }, { on := 1, ground := Ground.phase }, { on := 2, ground := Ground.phase }, { on := 3, ground := Ground.phase }, { on := 4, ground := Ground.phase }, { on := 5, ground := Ground.phase }, { on := 6, ground := Ground.phase }], guard := none }) (v := ?_) rfl (by kernel_rfl) (by kernel_rfl) (by kernel_rfl) (fun _ _ _ h => h) (Or.inl ⟨by rfl, ?_⟩) (by assumption) ?_
          rotate_left 1
          · (intro w hSw; (try dsimp only at hSw); go_simp <;> (with_reducible rfl))
          (first | ((fail_if_success (unfold Act.put)); (try simp only [List.setIfInBounds_toArray, List.set_cons_zero, List.set_cons_succ])) | (try simp only [Act.put, List.setIfInBounds_toArray, List.set_cons_zero, List.set_cons_succ]))
          refine wpAnyH_done (by kernel_rfl) ?_ _
          clear hR2
          gi_wp2
          refine HR.out.mono ?_
          rintro e W3 (⟨rfl, hJ3, hk3⟩ | ⟨rfl, hJx3⟩)
          · gi_wp2
            go_roundw
            case rel => exact ⟨i, j + 1, m', _, hi2, hj2, by omega, by go_num, by go_num, HN, hJ3, hk.trans ((KpC.drew _ _ _ _).trans hk3)⟩
            case measure => simp [intOf]; omega
          · gi_wp2
            refine bodyPost_ret (results_none rfl _ _ _) rfl ?_
            exact ⟨⟨_, rfl⟩, .inr ⟨_, HPR.out, hJx3⟩⟩
      · have t1 : ¬ (i : Int) < 2 * (a.length : Int) := by omega
        have t2 : (j : Int) < 2 * (b.length : Int) := by omega
        have hj0 : j < 2 * b.length := by omega
        have hxy : yb < x := by have := bnd_out (l := a) (i := i) (by omega); have := bnd_bd hb hj0; have := HX.out; have := HYb.out; omega
        clear hj0
        have e1 : nday a b i j = yb := by unfold nday; rw [← HX.out, ← HYb.out]; omega
        have e2 : ni a b i j = i := by unfold ni; rw [e1, ← HX.out]; exact if_neg (by omega)
        have e3 : nj a b i j = j + 1 := by unfold nj; rw [e1, ← HYb.out]; exact if_pos rfl
        obtain ⟨m', rfl, hc⟩ := chg_next hmore hm hi hj
        rw [e1, e2, e3] at hc
        have HN : Hid (pre ++ [(yb, od (i), od (j + 1))] ++ chg a b m' (i) (j + 1) = chgs a b) := Lib.hid (by rw [← HP.out, hc, List.append_assoc]; rfl)
        have hlen : pre.length < (chgs a b).length := by rw [← HP.out, hc]; simp
        have hpre : Spre a b (pre ++ [(yb, od (i), od (j + 1))]) := ⟨pre.length + 1, by rw [← HN.out, List.take_left' (by simp)]⟩
        have HPR := Lib.hid hpre
        have oa : ((i : Int) % 2 == 1) = od (i) := od_int' _ _ (by omega)
        have ob : (((j : Int) + 1) % 2 == 1) = od (j + 1) := od_int' _ _ (by omega)
        obtain ⟨qa, hqa⟩ : ∃ q, q = od (i) := ⟨_, rfl⟩
        obtain ⟨qb, hqb⟩ : ∃ q, q = od (j + 1) := ⟨_, rfl⟩
        rw [← hqa] at oa HN HPR
        rw [← hqb] at ob HN HPR
        clear hqa hqb
        obtain ⟨fn, tmps, assign, body, hy, hR⟩ := hY pre (yb, qa, qb) wr.drew (HJ.out _ _ _ none hJs (grownBy_drew wr none) (fun _ e => by cases e)) hlen
        dsimp only [encs] at hy
        have HR := Lib.hid hR
        obtain ⟨hi2, hj2, hgo, -⟩ := step_le ha hb hi hj hmore
        rw [e2] at hi2 hgo
        rw [e3] at hj2 hgo
        have l1 : (x == yb) = false := by simp; omega
        clear hc e1 e2 e3 hR hlen hpre HP HJ HX HYb
        gi_wp2_with fail
        refine wpIn_region_any (by kernel_rfl) ?_
        refine anyIn_of_any (by kernel_rfl) (fun _ _ h => by obtain ⟨⟨v, hv⟩, _⟩ := h; cases hv) _ _ _ _ (wpAny_of_held (S := (fun w' => w'.cell? ⟨Ba, 0, none⟩ = some (.slice aa a.length ca) ∧ w'.cell? ⟨Bb, 0, none⟩ = some (.slice ab b.length cb))) _ _ _ _ ?_)
        have hR0 := (show wr.drew.cell? ⟨Ba, 0, none⟩ = some (.slice aa a.length ca) ∧ wr.drew.cell? ⟨Bb, 0, none⟩ = some (.slice ab b.length cb) from ⟨cA, cB⟩)
        change wpAnyH _ _ _ _ _ 8 #[false, false, false, false, false, false, false, false] _ (wr.drew)
        refine wpAnyH_take (i := 0) (oi := { dst := some 21, op := Op.load 22 (Operand.tmp 1), type := 22, pos := "sweep.go:35", after := #[], guard := none }) (v := ?_) rfl (by kernel_rfl) (by kernel_rfl) (by kernel_rfl) (fun _ _ _ h => h) (Or.inl ⟨by rfl, ?_⟩) (by assumption) ?_
        rotate_left 1
        · (intro w hSw; (try dsimp only at hSw); go_simp <;> (with_reducible rfl))
        (first | ((fail_if_success (unfold Act.put)); (try simp only [List.setIfInBounds_toArray, List.set_cons_zero, List.set_cons_succ])) | (try simp only [Act.put, List.setIfInBounds_toArray, List.set_cons_zero, List.set_cons_succ]))
        refine wpAnyH_take (i := 1) (oi := { dst := some 22, op := Op.move (Operand.tmp 4), type := 3, pos := "sweep.go:35", after := #[], guard := none }) (v := ?_) rfl (by kernel_rfl) (by kernel_rfl) (by kernel_rfl) (fun _ _ _ h => h) (Or.inl ⟨by rfl, ?_⟩) (by assumption) ?_
        rotate_left 1
        · (intro w hSw; (try dsimp only at hSw); go_simp <;> (with_reducible rfl))
        (first | ((fail_if_success (unfold Act.put)); (try simp only [List.setIfInBounds_toArray, List.set_cons_zero, List.set_cons_succ])) | (try simp only [Act.put, List.setIfInBounds_toArray, List.set_cons_zero, List.set_cons_succ]))
        refine wpAnyH_take (i := 3) (oi := { dst := some 24, op := Op.load 22 (Operand.tmp 2), type := 22, pos := "sweep.go:35", after := #[], guard := none }) (v := ?_) rfl (by kernel_rfl) (by kernel_rfl) (by kernel_rfl) (fun _ _ _ h => h) (Or.inl ⟨by rfl, ?_⟩) (by assumption) ?_
        rotate_left 1
        · (intro w hSw; (try dsimp only at hSw); go_simp <;> (with_reducible rfl))
        (first | ((fail_if_success (unfold Act.put)); (try simp only [List.setIfInBounds_toArray, List.set_cons_zero, List.set_cons_succ])) | (try simp only [Act.put, List.setIfInBounds_toArray, List.set_cons_zero, List.set_cons_succ]))
        refine wpAnyH_take (i := 4) (oi := { dst := some 25, op := Op.move (Operand.tmp 5), type := 3, pos := "sweep.go:35", after := #[], guard := none }) (v := ?_) rfl (by kernel_rfl) (by kernel_rfl) (by kernel_rfl) (fun _ _ _ h => h) (Or.inl ⟨by rfl, ?_⟩) (by assumption) ?_
        rotate_left 1
        · (intro w hSw; (try dsimp only at hSw); go_simp <;> (with_reducible rfl))
        (first | ((fail_if_success (unfold Act.put)); (try simp only [List.setIfInBounds_toArray, List.set_cons_zero, List.set_cons_succ])) | (try simp only [Act.put, List.setIfInBounds_toArray, List.set_cons_zero, List.set_cons_succ]))
        refine wpAnyH_ready (rs := [2]) (by kernel_rfl) (by simp) ?_
        refine AllReadyH.cons (o := { dst := some 23, op := Op.call { callee := Callee.value (Operand.func 56), args := #[Operand.tmp 21, Operand.tmp 22], argTypes := #[22, 3] }, type := 3, pos := "sweep.go:35", after := #[{ on := 0, ground := Ground.data }, { on := 1, ground := Ground.data }], guard := none }) rfl (fun K hK => ?_) AllReadyH.nil
        go_simp
        go_at_call 56; refine (HA2.out _ hWr.drew).mono ?_; rintro e w' ⟨rfl, rfl⟩
        (try go_wp2_with fail)
        refine hK.out _ _ (hR0) (fun hR1 => ?_)
        clear hK K hR0
        (first | ((fail_if_success (unfold Act.put)); (try simp only [List.setIfInBounds_toArray, List.set_cons_zero, List.set_cons_succ])) | (try simp only [Act.put, List.setIfInBounds_toArray, List.set_cons_zero, List.set_cons_succ]))
        refine wpAnyH_ready (rs := [5]) (by kernel_rfl) (by simp) ?_
        refine AllReadyH.cons (o := { dst := some 26, op := Op.call { callee := Callee.value (Operand.func 56), args := #[Operand.tmp 24, Operand.tmp 25], argTypes := #[22, 3] }, type := 3, pos := "sweep.go:35", after := #[{ on := 3, ground := Ground.data }, { on := 4, ground := Ground.data }, { on := 2, ground := Ground.chain }], guard := none }) rfl (fun K hK => ?_) AllReadyH.nil
        go_simp
        go_at_call 56; refine (HB2.out _ hWr.drew).mono ?_; rintro e w' ⟨rfl, rfl⟩
        (try go_wp2_with fail)
        refine hK.out _ _ (hR1) (fun hR2 => ?_)
        clear hK K hR1
        (first | ((fail_if_success (unfold Act.put)); (try simp only [List.setIfInBounds_toArray, List.set_cons_zero, List.set_cons_succ])) | (try simp only [Act.put, List.setIfInBounds_toArray, List.set_cons_zero, List.set_cons_succ]))
        refine wpAnyH_take (i := 6) (oi := { dst := some 6, op := Op.assign (Operand.tmp 23), type := 3, pos := "sweep.go:35", after := #[{ on := 2, ground := Ground.data }, { on := 5, ground := Ground.chain }, { on := 0, ground := Ground.phase }, { on := 1, ground := Ground.phase }, { on := 2, ground := Ground.phase }, { on := 3, ground := Ground.textOnly Departure.lateStores }, { on := 4, ground := Ground.textOnly Departure.lateStores }, { on := 5, ground := Ground.textOnly Departure.lateStoresUnsure }], guard := none }) (v := ?_) rfl (by kernel_rfl) (by kernel_rfl) (by kernel_rfl) (fun _ _ _ h => h) (Or.inl ⟨by rfl, ?_⟩) (by assumption) ?_
        rotate_left 1
        · (intro w hSw; (try dsimp only at hSw); go_simp <;> (with_reducible rfl))
        (first | ((fail_if_success (unfold Act.put)); (try simp only [List.setIfInBounds_toArray, List.set_cons_zero, List.set_cons_succ])) | (try simp only [Act.put, List.setIfInBounds_toArray, List.set_cons_zero, List.set_cons_succ]))
        refine wpAnyH_take (i := 7) (oi := { dst := some 7, op := Op.assign (Operand.tmp 26), type := 3, pos := "sweep.go:35", after := #[{ on := 5, ground := Ground.data }, { on := 6, ground := Ground.chain }, { on := 0, ground := Ground.phase }, { on := 1, ground := Ground.phase }, { on := 2, ground := Ground.phase }, { on := 3, ground := Ground.phase }, { on := 4, ground := Ground.phase }, { on := 5, ground := Ground.phase }, { on := 6, ground := Ground.phase }], guard := none }) (v := ?_) rfl (by kernel_rfl) (by kernel_rfl) (by kernel_rfl) (fun _ _ _ h => h) (Or.inl ⟨by rfl, ?_⟩) (by assumption) ?_
        rotate_left 1
        · (intro w hSw; (try dsimp only at hSw); go_simp <;> (with_reducible rfl))
        (first | ((fail_if_success (unfold Act.put)); (try simp only [List.setIfInBounds_toArray, List.set_cons_zero, List.set_cons_succ])) | (try simp only [Act.put, List.setIfInBounds_toArray, List.set_cons_zero, List.set_cons_succ]))
        refine wpAnyH_done (by kernel_rfl) ?_ _
        clear hR2
        gi_wp2
        refine HR.out.mono ?_
        rintro e W3 (⟨rfl, hJ3, hk3⟩ | ⟨rfl, hJx3⟩)
        · gi_wp2
          go_roundw
          case rel => exact ⟨i, j + 1, m', _, hi2, hj2, by omega, by go_num, by go_num, HN, hJ3, hk.trans ((KpC.drew _ _ _ _).trans hk3)⟩
          case measure => simp [intOf]; omega
        · gi_wp2
          refine bodyPost_ret (results_none rfl _ _ _) rfl ?_
          exact ⟨⟨_, rfl⟩, .inr ⟨_, HPR.out, hJx3⟩⟩
    · have e : pre = chgs a b := by
        have := HP.out
        rwa [chg_done (by omega) (by omega), List.append_nil] at this
      have HE := Lib.hid e
      have t1 : ¬ (i : Int) < 2 * (a.length : Int) := by omega
      have t2 : ¬ (j : Int) < 2 * (b.length : Int) := by omega
      clear hmore e hWr
      gi_wp2
      go_end0
      exact ⟨⟨_, rfl⟩, .inl ⟨pre, HE.out, hJs⟩⟩

theorem changes_in (va vb : Value) (aa ab : Option Addr) (na nb ca cb : Nat) (hva : va = .slice aa na ca) (hvb : vb = .slice ab nb cb) (w : World) :
    Calls Tryz.prog 44 #[va, vb] w fun e w' => e = .returned (.func (.func 55) #[] #[.pointer (some ⟨w.heap.size, 0, none⟩), .pointer (some ⟨w.heap.size + 1, 0, none⟩)]) ∧ (w.alloc (.cells #[va] 22)).alloc (.cells #[vb] 22) = w' := by
  subst hva
  subst hvb
  go_enter Tryz.func44, Tryz.ntmps44
  go_wp2
  go_ret
  exact ⟨rfl, rfl⟩

theorem changes_stops (n : Nat) (hn : 1 ≤ n) (Ba Bb n₀ : Nat) (va vb : Value) (a b : L) (ha : IsSet a) (hb : IsSet b) (wl : World) (hla : Spn wl va a) (hlb : Spn wl vb b) (hwl : wl.heap.size ≤ n₀) (w : World) (hA : Ba < w.heap.size) (hB : Bb < w.heap.size)
    (hcA : w.cell? ⟨Ba, 0, none⟩ = some va) (hcB : w.cell? ⟨Bb, 0, none⟩ = some vb) (hbl : Below wl.heap.size wl w) :
    SeqStopsK Fence.wide n Tryz.prog 55 #[.pointer (some ⟨Ba, 0, none⟩), .pointer (some ⟨Bb, 0, none⟩)] encs (KpC n₀ Ba Bb) (Sall a b) (Spre a b) (chgs a b).length w := fun y J Jx W hW hJ _ hY h0 =>
  changes1_in n hn y Ba Bb n₀ va vb a b ha hb wl hla hlb hwl J Jx W hJ hY ((hW.cell (p := ⟨Ba, 0, none⟩) hA).trans hcA) ((hW.cell (p := ⟨Bb, 0, none⟩) hB).trans hcB) (hbl.trans (hW.mono hbl.size)) h0
end Go.Proofs.YtanlaejdibikiaaGreat
