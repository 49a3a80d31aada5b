/-
'gather' and 'Make': the set of the days of spans.
-/
import Derived.Test.YtanlaejdibikiaaGreatBridge
namespace Go.Proofs.YtanlaejdibikiaaGreat
open Go.RowKit Go.Shelf Sp

/-- The set of the days of spans, put together by halves. -/
def gath : Nat → L → L
  | 0, _ => []
  | _ + 1, [] => []
  | _ + 1, [s] => if s.1 = s.2 then [] else [s]
  | n + 1, x :: y :: t => comb opU (gath n ((x :: y :: t).take ((x :: y :: t).length / 2))) (gath n ((x :: y :: t).drop ((x :: y :: t).length / 2)))

def AllOk (l : L) : Prop := ∀ s ∈ l, okB s.1 s.2 = true

theorem gath_spec (n : Nat) : ∀ (l : L), l.length ≤ n → AllOk l → IsSet (gath n l) ∧ ∀ d, Mem (gath n l) d ↔ Mem l d := by
  induction n with
  | zero =>
    intro l hl _
    obtain rfl := List.eq_nil_of_length_eq_zero (Nat.le_zero.1 hl)
    exact ⟨trivial, fun _ => Iff.rfl⟩
  | succ n ih =>
    intro l hl hok
    match l, hl, hok with
    | [], _, _ => exact ⟨trivial, fun _ => Iff.rfl⟩
    | [s], _, hok =>
      have := (okB_iff s.1 s.2).1 (hok s (by simp))
      unfold gath
      split
      · refine ⟨trivial, fun d => ?_⟩
        rw [mem_cons]
        have := mem_nil d
        constructor
        · intro h; exact absurd h this
        · rintro (h | h)
          · omega
          · exact h
      · exact ⟨⟨by omega, by omega, by omega, trivial⟩, fun _ => Iff.rfl⟩
    | x :: y :: t, hl, hok =>
      have h1 : (x :: y :: t).length / 2 < (x :: y :: t).length := by simp <;> omega
      have h2 : 0 < (x :: y :: t).length / 2 := by simp <;> omega
      unfold gath
      generalize hL : x :: y :: t = l at hl hok h1 h2
      obtain ⟨a1, a2⟩ := ih (l.take (l.length / 2)) (by simp; omega) (fun s hs => hok s (List.mem_of_mem_take hs))
      obtain ⟨b1, b2⟩ := ih (l.drop (l.length / 2)) (by simp; omega) (fun s hs => hok s (List.mem_of_mem_drop hs))
      obtain ⟨c1, c2⟩ := comb_spec opU rfl a1 b1
      refine ⟨c1, fun d => ?_⟩
      rw [c2, opU, Bool.or_eq_true, memB_iff, memB_iff, a2, b2, ← mem_append, List.take_append_drop]

theorem gath_cut {n : Nat} {l : L} (h : 2 ≤ l.length) : gath (n + 1) l = comb opU (gath n (l.take (l.length / 2))) (gath n (l.drop (l.length / 2))) := by
  match l, h with
  | x :: y :: t, _ => rfl

theorem Spn.take {W : World} {a : Option Addr} {n cap : Nat} {l : L} (h : Spn W (.slice a n cap) l) (k : Nat) (hk : k ≤ l.length) : Spn W (.slice a k cap) (l.take k) := by
  obtain ⟨a', cap', e, h1, ⟨h2, h3, h4⟩, h5⟩ := h
  cases e
  have hl : (l.take k).length = k := by simp; omega
  refine ⟨a, cap, by rw [hl], by omega, ⟨h2, by omega, h4⟩, ?_⟩
  rcases h5 with rfl | ⟨b, off, rfl, hc⟩
  · left; simp
  · refine .inr ⟨b, off, rfl, fun j hj => ?_⟩
    have := hc j (by omega)
    rw [List.getElem?_take_of_lt (by omega)]
    exact this
theorem Spn.drop {W : World} {b off n cap : Nat} {l : L} (h : Spn W (.slice (some ⟨b, off, none⟩) n cap) l) (k : Nat) (hk : k ≤ l.length) : Spn W (.slice (some ⟨b, off + k * 2, none⟩) (l.length - k) (cap - k)) (l.drop k) := by
  obtain ⟨a', cap', e, h1, ⟨h2, h3, h4⟩, h5⟩ := h
  cases e
  have hl : (l.drop k).length = l.length - k := by simp
  refine ⟨_, _, by rw [hl], by omega, ⟨by omega, by omega, fun e => by cases e⟩, ?_⟩
  rcases h5 with rfl | ⟨b', off', e, hc⟩
  · left; simp
  · cases e
    refine .inr ⟨b, off + k * 2, rfl, fun j hj => ?_⟩
    have := hc (k + j) (by omega)
    rw [List.getElem?_drop, show off + k * 2 + j * 2 = off + (k + j) * 2 from by omega]
    exact this

theorem own_lit (W : World) (base : Nat) (hb : base ≤ W.heap.size) (l : L) (hl : l.length ≤ 1000) : (W.alloc (.cells (cellsS l).toArray 31)).ownsRow base 31 2 (.slice (some ⟨W.heap.size, 0, none⟩) l.length l.length) l.length (cellsS l) :=
  ⟨cellsS_length l, .inr ⟨W.heap.size, l.length, (cellsS l).toArray, rfl, hb, World.alloc_heap_new W _, Nat.le_refl _, by unfold maxLen; omega, by simp [cellsS_length], by rw [← cellsS_length]; simp⟩⟩

theorem own_mono {W : World} {b b' : Nat} {e : TypeId} {s : Nat} {v : Value} {n : Nat} {xs : List Value} (h : W.ownsRow b e s v n xs) (hb : b' ≤ b) : W.ownsRow b' e s v n xs :=
  ⟨h.1, h.2.imp id fun ⟨g, cap, cur, h1, h2, h3⟩ => ⟨g, cap, cur, h1, Nat.le_trans hb h2, h3⟩⟩

/-- A slice that the call has made. -/
def GivesV (l : L) (w : World) (e : Ending) (w' : World) : Prop := (∃ v, e = .returned v ∧ w'.ownsRow w.heap.size 31 2 v l.length (cellsS l)) ∧ Below w.heap.size w w'

set_option maxRecDepth 100000 in
set_option maxHeartbeats 4000000 in
theorem gather_any (n : Nat) : ∀ (l : L) (v : Value) (w : World), l.length ≤ n → AllOk l → Spn w v l → Calls Tryz.prog 48 #[v] w (GivesV (gath n l) w) := by
  induction n with
  | zero =>
    intro l v w hn hok h
    obtain rfl := List.eq_nil_of_length_eq_zero (Nat.le_zero.1 hn)
    obtain ⟨a, cap, rfl, -⟩ := h
    clear hok
    go_enter Tryz.func48, Tryz.ntmps48
    go_wp2_with fail
    go_ret
    exact ⟨⟨_, rfl, World.ownsRow_nil _ _ _ _⟩, Below.refl _ _⟩
  | succ n ih =>
    intro l v w hn hok h
    match l, hn, hok, h with
    | [], hn, hok, h =>
      obtain ⟨a, cap, rfl, -⟩ := h
      clear hok ih
      go_enter Tryz.func48, Tryz.ntmps48
      go_wp2_with fail
      go_ret
      exact ⟨⟨_, rfl, World.ownsRow_nil _ _ _ _⟩, Below.refl _ _⟩
    | [s], hn, hok, h =>
      obtain ⟨x, y⟩ := s
      obtain ⟨a, cap, rfl, hlc, ⟨hcm, -, -⟩, h5⟩ := h
      rcases h5 with h5 | ⟨b, off, rfl, hc⟩
      · cases h5
      obtain ⟨c1, c2⟩ := hc 0 (by simp)
      simp only [List.length_cons, List.length_nil, Nat.zero_add] at hlc
      have hbw := lt_of_cell c1
      dsimp only at hbw
      simp only [List.length_cons, List.length_nil, Nat.zero_mul, Nat.add_zero, List.getElem?_cons_zero, Option.getD_some, Nat.zero_add] at c1 c2 ⊢
      have HW := Lib.hid (fun W => isEmpty_any x y W)
      clear hok ih hn hc
      by_cases hxy : x = y
      · have e : (x == y) = true := by simpa using hxy
        have hg : gath (n + 1) [(x, y)] = [] := by unfold gath; rw [if_pos hxy]
        rw [e] at HW
        have HG := Lib.hid hg
        clear e hg hxy
        go_enter Tryz.func48, Tryz.ntmps48
        go_wp2_with (go_at_call 51; refine (HW.out _).mono ?_; rintro e w1 ⟨rfl, hb1⟩)
        go_ret
        exact ⟨⟨_, rfl, by rw [HG.out]; exact World.ownsRow_nil _ _ _ _⟩, hb1⟩
      · have e : (x == y) = false := by simpa using hxy
        have hg : gath (n + 1) [(x, y)] = [(x, y)] := by unfold gath; rw [if_neg hxy]
        rw [e] at HW
        have HG := Lib.hid hg
        clear e hg hxy
        go_enter Tryz.func48, Tryz.ntmps48
        go_wp2_with (go_at_call 51; refine (HW.out _).mono ?_; rintro e w1 ⟨rfl, hb1⟩; have d1 := (hb1.cell (p := ⟨b, off, none⟩) hbw).trans c1; have d2 := (hb1.cell (p := ⟨b, off + 1, none⟩) hbw).trans c2)
        go_ret
        exact ⟨⟨_, rfl, by rw [HG.out]; exact own_lit w1 _ hb1.size [(x, y)] (by simp)⟩, hb1.alloc hb1.size _⟩
    | x :: y :: t, hn, hok, h =>
      obtain ⟨l, hL⟩ : ∃ l, l = x :: y :: t := ⟨_, rfl⟩
      rw [← hL] at hn hok h ⊢
      have h2 : 2 ≤ l.length := by rw [hL]; simp
      clear hL x y t
      have hne : l ≠ [] := by intro e; rw [e] at h2; simp at h2
      have h' := h
      obtain ⟨a, cap, rfl, hlc, ⟨hcm, hcl, -⟩, -⟩ := h'
      obtain ⟨b, off, rfl, hbw, -⟩ := h.block hne
      have hk : l.length / 2 ≤ l.length := by omega
      have s1 := h.take (l.length / 2) hk
      have s2 := h.drop (l.length / 2) hk
      have o1 : AllOk (l.take (l.length / 2)) := fun s hs => hok s (List.mem_of_mem_take hs)
      have o2 : AllOk (l.drop (l.length / 2)) := fun s hs => hok s (List.mem_of_mem_drop hs)
      have n1 : (l.take (l.length / 2)).length ≤ n := by simp; omega
      have n2 : (l.drop (l.length / 2)).length ≤ n := by simp; omega
      have HA := Lib.hid (fun W (hW : Below w.heap.size w W) => ih _ _ W n1 o1 (s1.below hW (Nat.le_refl _)))
      have HB := Lib.hid (fun W (hW : Below w.heap.size w W) => ih _ _ W n2 o2 (s2.below hW (Nat.le_refl _)))
      have HSA := Lib.hid (gath_spec n _ n1 o1).1
      have HSB := Lib.hid (gath_spec n _ n2 o2).1
      have HG := Lib.hid (gath_cut (n := n) h2)
      rw [HG.out]
      obtain ⟨la, hla⟩ : ∃ x, x = gath n (l.take (l.length / 2)) := ⟨_, rfl⟩
      obtain ⟨lb, hlb⟩ : ∃ x, x = gath n (l.drop (l.length / 2)) := ⟨_, rfl⟩
      rw [← hla] at HA HSA ⊢
      rw [← hlb] at HB HSB ⊢
      have q1 : (0 : Int) ≤ (l.length : Int) / 2 := by omega
      have q2 : (l.length : Int) / 2 ≤ (l.length : Int) := by omega
      have q3 : (l.length : Int) / 2 ≤ (cap : Int) := by omega
      have q4 : ((l.length : Int) / 2).toNat = l.length / 2 := by omega
      have q5 : ((l.length : Int) == 0) = false := by simp; omega
      have q6 : ((l.length : Int) == 1) = false := by simp; omega
      have q7 : l.length / 2 ≤ cap := by omega
      have q8 : ¬ cap = l.length / 2 := by omega
      clear hla hlb s1 s2 o1 o2 n1 n2 hok hn ih h HG
      go_enter Tryz.func48, Tryz.ntmps48
      go_wp2_with fail
      refine wp_region_noPanic ?_
      refine wp_region_held_drew (S := (fun _ => True)) (by kernel_rfl) trivial (fun hR0 => ?_)
      change wpAnyH _ _ _ _ _ 14 #[false, false, false, false, false, false, false, false, false, false, false, false, false, false] _ _
      refine wpAnyH_take (i := 0) (oi := { dst := some 31, op := Op.move (Operand.tmp 0), type := 22, pos := "sweep.go:93", after := #[], guard := none }) (v := ?_) rfl (by kernel_rfl) (by kernel_rfl) (by kernel_rfl) (fun _ _ _ h => h) (Or.inl ⟨by rfl, ?_⟩) (by assumption) ?_
      rotate_left 1
      · (intro w hSw; (try dsimp only at hSw); go_simp <;> (with_reducible rfl))
      (first | ((fail_if_success (unfold Act.put)); (try simp only [List.setIfInBounds_toArray, List.set_cons_zero, List.set_cons_succ])) | (try simp only [Act.put, List.setIfInBounds_toArray, List.set_cons_zero, List.set_cons_succ]))
      refine wpAnyH_take (i := 1) (oi := { dst := some 32, op := Op.move (Operand.tmp 3), type := 3, pos := "sweep.go:93", after := #[], guard := none }) (v := ?_) rfl (by kernel_rfl) (by kernel_rfl) (by kernel_rfl) (fun _ _ _ h => h) (Or.inl ⟨by rfl, ?_⟩) (by assumption) ?_
      rotate_left 1
      · (intro w hSw; (try dsimp only at hSw); go_simp <;> (with_reducible rfl))
      (first | ((fail_if_success (unfold Act.put)); (try simp only [List.setIfInBounds_toArray, List.set_cons_zero, List.set_cons_succ])) | (try simp only [Act.put, List.setIfInBounds_toArray, List.set_cons_zero, List.set_cons_succ]))
      refine wpAnyH_take (i := 2) (oi := { dst := some 33, op := Op.slice 22 (Operand.tmp 31) none (some (Operand.tmp 32)) none, type := 22, pos := "sweep.go:93", after := #[{ on := 0, ground := Ground.data }, { on := 1, ground := Ground.data }], guard := none }) (v := ?_) rfl (by kernel_rfl) (by kernel_rfl) (by kernel_rfl) (fun _ _ _ h => h) (Or.inl ⟨by rfl, ?_⟩) (by assumption) ?_
      rotate_left 1
      · (intro w hSw; (try dsimp only at hSw); go_simp <;> (with_reducible rfl))
      (first | ((fail_if_success (unfold Act.put)); (try simp only [List.setIfInBounds_toArray, List.set_cons_zero, List.set_cons_succ])) | (try simp only [Act.put, List.setIfInBounds_toArray, List.set_cons_zero, List.set_cons_succ]))
      refine wpAnyH_take (i := 4) (oi := { dst := some 35, op := Op.move (Operand.tmp 0), type := 22, pos := "sweep.go:93", after := #[], guard := none }) (v := ?_) rfl (by kernel_rfl) (by kernel_rfl) (by kernel_rfl) (fun _ _ _ h => h) (Or.inl ⟨by rfl, ?_⟩) (by assumption) ?_
      rotate_left 1
      · (intro w hSw; (try dsimp only at hSw); go_simp <;> (with_reducible rfl))
      (first | ((fail_if_success (unfold Act.put)); (try simp only [List.setIfInBounds_toArray, List.set_cons_zero, List.set_cons_succ])) | (try simp only [Act.put, List.setIfInBounds_toArray, List.set_cons_zero, List.set_cons_succ]))
      refine wpAnyH_take (i := 5) (oi := { dst := some 36, op := Op.move (Operand.tmp 3), type := 3, pos := "sweep.go:93", after := #[], guard := none }) (v := ?_) rfl (by kernel_rfl) (by kernel_rfl) (by kernel_rfl) (fun _ _ _ h => h) (Or.inl ⟨by rfl, ?_⟩) (by assumption) ?_
      rotate_left 1
      · (intro w hSw; (try dsimp only at hSw); go_simp <;> (with_reducible rfl))
      (first | ((fail_if_success (unfold Act.put)); (try simp only [List.setIfInBounds_toArray, List.set_cons_zero, List.set_cons_succ])) | (try simp only [Act.put, List.setIfInBounds_toArray, List.set_cons_zero, List.set_cons_succ]))
      refine wpAnyH_take (i := 6) (oi := { dst := some 37, op := Op.slice 22 (Operand.tmp 35) (some (Operand.tmp 36)) none none, type := 22, pos := "sweep.go:93", after := #[{ on := 4, ground := Ground.data }, { on := 5, ground := Ground.data }], guard := none }) (v := ?_) rfl (by kernel_rfl) (by kernel_rfl) (by kernel_rfl) (fun _ _ _ h => h) (Or.inl ⟨by rfl, ?_⟩) (by assumption) ?_
      rotate_left 1
      · (intro w hSw; (try dsimp only at hSw); go_simp <;> (with_reducible rfl))
      (first | ((fail_if_success (unfold Act.put)); (try simp only [List.setIfInBounds_toArray, List.set_cons_zero, List.set_cons_succ])) | (try simp only [Act.put, List.setIfInBounds_toArray, List.set_cons_zero, List.set_cons_succ]))
      refine wpAnyH_ready (rs := [3]) (by kernel_rfl) (by simp) ?_
      refine AllReadyH.cons (o := { dst := some 34, op := Op.call { callee := Callee.value (Operand.func 48), args := #[Operand.tmp 33], argTypes := #[22] }, type := 22, pos := "sweep.go:93", after := #[{ on := 2, ground := Ground.data }], guard := none }) rfl (fun K hK => ?_) AllReadyH.nil
      go_simp
      go_at_call 48; refine (HA.out _ ((Below.refl _ _).drew)).mono ?_; rintro e w1 ⟨⟨v1, rfl, ho1⟩, hb1⟩; have HO1 := Lib.hid ho1; have hb1' : Below w.heap.size w w1 := (Below.refl _ _).drew.trans hb1; clear ho1 hb1
      (try go_wp2_with fail)
      refine hK.out _ _ (trivial) (fun hR1 => ?_)
      clear hK K hR0
      (first | ((fail_if_success (unfold Act.put)); (try simp only [List.setIfInBounds_toArray, List.set_cons_zero, List.set_cons_succ])) | (try simp only [Act.put, List.setIfInBounds_toArray, List.set_cons_zero, List.set_cons_succ]))
      refine wpAnyH_ready (rs := [7]) (by kernel_rfl) (by simp) ?_
      refine AllReadyH.cons (o := { dst := some 38, op := Op.call { callee := Callee.value (Operand.func 48), args := #[Operand.tmp 37], argTypes := #[22] }, type := 22, pos := "sweep.go:93", after := #[{ on := 6, ground := Ground.data }, { on := 3, ground := Ground.chain }], guard := none }) rfl (fun K hK => ?_) AllReadyH.nil
      go_simp
      go_at_call 48; refine (HB.out _ hb1').mono ?_; rintro e w2 ⟨⟨v2, rfl, ho2⟩, hb2⟩; have HO2 := Lib.hid ho2; have HS1 := Lib.hid ((Spn.of_owns HO1.out (by have := HSA.out.length; omega)).below hb2 (Nat.le_refl _)); have HS2 := Lib.hid (Spn.of_owns ho2 (by have := HSB.out.length; omega)); have hb2' : Below w.heap.size w w2 := hb1'.trans (hb2.mono hb1'.size); clear ho2 hb2
      (try go_wp2_with fail)
      refine hK.out _ _ (trivial) (fun hR2 => ?_)
      clear hK K hR1
      (first | ((fail_if_success (unfold Act.put)); (try simp only [List.setIfInBounds_toArray, List.set_cons_zero, List.set_cons_succ])) | (try simp only [Act.put, List.setIfInBounds_toArray, List.set_cons_zero, List.set_cons_succ]))
      refine wpAnyH_ready (rs := [8]) (by kernel_rfl) (by simp) ?_
      refine AllReadyH.cons (o := { dst := some 39, op := Op.call { callee := Callee.value (Operand.func 14), args := #[Operand.tmp 34, Operand.tmp 38], argTypes := #[22, 22] }, type := 35, pos := "sweep.go:93", after := #[{ on := 3, ground := Ground.data }, { on := 7, ground := Ground.data }, { on := 7, ground := Ground.chain }], guard := none }) rfl (fun K hK => ?_) AllReadyH.nil
      go_simp
      go_at_call 14; refine (Union_ok _ _ _ _ HSA.out HSB.out _ HS1.out HS2.out).mono ?_; rintro e w3 ⟨⟨v3, rfl, ho3⟩, hb3⟩; have HO3 := Lib.hid (own_mono ho3 hb2'.size); have hb3' : Below w.heap.size w w3 := hb2'.trans (hb3.mono hb2'.size); clear ho3 hb3
      (try go_wp2_with fail)
      refine hK.out _ _ (trivial) (fun hR3 => ?_)
      clear hK K hR2
      (first | ((fail_if_success (unfold Act.put)); (try simp only [List.setIfInBounds_toArray, List.set_cons_zero, List.set_cons_succ])) | (try simp only [Act.put, List.setIfInBounds_toArray, List.set_cons_zero, List.set_cons_succ]))
      refine wpAnyH_take (i := 9) (oi := { dst := some 30, op := Op.move (Operand.tmp 39), type := 35, pos := "sweep.go:93", after := #[{ on := 8, ground := Ground.data }], guard := none }) (v := ?_) rfl (by kernel_rfl) (by kernel_rfl) (by kernel_rfl) (fun _ _ _ h => h) (Or.inl ⟨by rfl, ?_⟩) (by assumption) ?_
      rotate_left 1
      · (intro w hSw; (try dsimp only at hSw); go_simp <;> (with_reducible rfl))
      (first | ((fail_if_success (unfold Act.put)); (try simp only [List.setIfInBounds_toArray, List.set_cons_zero, List.set_cons_succ])) | (try simp only [Act.put, List.setIfInBounds_toArray, List.set_cons_zero, List.set_cons_succ]))
      refine wpAnyH_take (i := 10) (oi := { dst := some 40, op := Op.extract (Operand.tmp 30) 0, type := 22, pos := "sweep.go:93", after := #[{ on := 9, ground := Ground.data }], guard := none }) (v := ?_) rfl (by kernel_rfl) (by kernel_rfl) (by kernel_rfl) (fun _ _ _ h => h) (Or.inl ⟨by rfl, ?_⟩) (by assumption) ?_
      rotate_left 1
      · (intro w hSw; (try dsimp only at hSw); go_simp <;> (with_reducible rfl))
      (first | ((fail_if_success (unfold Act.put)); (try simp only [List.setIfInBounds_toArray, List.set_cons_zero, List.set_cons_succ])) | (try simp only [Act.put, List.setIfInBounds_toArray, List.set_cons_zero, List.set_cons_succ]))
      refine wpAnyH_take (i := 11) (oi := { dst := some 41, op := Op.extract (Operand.tmp 30) 1, type := 34, pos := "sweep.go:93", after := #[{ on := 9, ground := Ground.data }, { on := 12, ground := Ground.gcOnly Departure.lateStores }], guard := none }) (v := ?_) rfl (by kernel_rfl) (by kernel_rfl) (by kernel_rfl) (fun _ _ _ h => h) (Or.inl ⟨by rfl, ?_⟩) (by assumption) ?_
      rotate_left 1
      · (intro w hSw; (try dsimp only at hSw); go_simp <;> (with_reducible rfl))
      (first | ((fail_if_success (unfold Act.put)); (try simp only [List.setIfInBounds_toArray, List.set_cons_zero, List.set_cons_succ])) | (try simp only [Act.put, List.setIfInBounds_toArray, List.set_cons_zero, List.set_cons_succ]))
      refine wpAnyH_take (i := 12) (oi := { dst := some 4, op := Op.assign (Operand.tmp 40), type := 22, pos := "sweep.go:93", after := #[{ on := 10, ground := Ground.data }, { on := 8, ground := Ground.chain }, { on := 0, ground := Ground.phase }, { on := 1, ground := Ground.phase }, { on := 2, ground := Ground.phase }, { on := 3, ground := Ground.phase }, { on := 4, ground := Ground.phase }, { on := 5, ground := Ground.phase }, { on := 6, ground := Ground.phase }, { on := 7, ground := Ground.phase }, { on := 8, ground := Ground.phase }, { on := 9, ground := Ground.phase }, { on := 10, ground := Ground.phase }, { on := 11, ground := Ground.textOnly Departure.lateStores }], guard := none }) (v := ?_) rfl (by kernel_rfl) (by kernel_rfl) (by kernel_rfl) (fun _ _ _ h => h) (Or.inl ⟨by rfl, ?_⟩) (by assumption) ?_
      rotate_left 1
      · (intro w hSw; (try dsimp only at hSw); go_simp <;> (with_reducible rfl))
      (first | ((fail_if_success (unfold Act.put)); (try simp only [List.setIfInBounds_toArray, List.set_cons_zero, List.set_cons_succ])) | (try simp only [Act.put, List.setIfInBounds_toArray, List.set_cons_zero, List.set_cons_succ]))
      refine wpAnyH_take (i := 13) (oi := { dst := some 5, op := Op.assign (Operand.tmp 41), type := 34, pos := "sweep.go:93", after := #[{ on := 11, ground := Ground.data }, { on := 12, ground := Ground.chain }, { on := 0, ground := Ground.phase }, { on := 1, ground := Ground.phase }, { on := 2, ground := Ground.phase }, { on := 3, ground := Ground.phase }, { on := 4, ground := Ground.phase }, { on := 5, ground := Ground.phase }, { on := 6, ground := Ground.phase }, { on := 7, ground := Ground.phase }, { on := 8, ground := Ground.phase }, { on := 9, ground := Ground.phase }, { on := 10, ground := Ground.phase }, { on := 11, ground := Ground.phase }, { on := 12, ground := Ground.phase }], guard := none }) (v := ?_) rfl (by kernel_rfl) (by kernel_rfl) (by kernel_rfl) (fun _ _ _ h => h) (Or.inl ⟨by rfl, ?_⟩) (by assumption) ?_
      rotate_left 1
      · (intro w hSw; (try dsimp only at hSw); go_simp <;> (with_reducible rfl))
      (first | ((fail_if_success (unfold Act.put)); (try simp only [List.setIfInBounds_toArray, List.set_cons_zero, List.set_cons_succ])) | (try simp only [Act.put, List.setIfInBounds_toArray, List.set_cons_zero, List.set_cons_succ]))
      refine wpAnyH_done (by kernel_rfl) ?_ _
      refine NoPanic.normal ?_
      clear hR3
      go_wp2
      go_ret
      exact ⟨⟨_, rfl, HO3.out⟩, hb3'⟩

theorem allOk_take {l : L} {k : Nat} (hk : k < l.length) : AllOk (l.take (k + 1)) ↔ AllOk (l.take k) ∧ okB (l[k]?.getD (0, 0)).1 (l[k]?.getD (0, 0)).2 = true := by
  rw [List.take_succ_eq_append_getElem hk, getD_eq hk]
  constructor
  · intro h; exact ⟨fun s hs => h s (List.mem_append_left _ hs), h _ (List.mem_append_right _ (List.mem_singleton.2 rfl))⟩
  · rintro ⟨h1, h2⟩ s hs
    rcases List.mem_append.1 hs with hs | hs
    · exact h1 s hs
    · simp at hs; subst hs; exact h2
theorem allOk_not {l : L} {k : Nat} (hk : k < l.length) (h : okB (l[k]?.getD (0, 0)).1 (l[k]?.getD (0, 0)).2 = false) : ¬ AllOk l := by
  intro ha
  have := ha (l[k]) (List.getElem_mem hk)
  rw [getD_eq hk, this] at h
  cases h

/-- The set of the days of valid spans. -/
def make (l : L) : L := gath l.length l

set_option maxRecDepth 100000 in
set_option maxHeartbeats 4000000 in
theorem Make_ok (v : Value) (l : L) (hl : AllOk l) (w : World) (h : Spn w v l) : Calls Tryz.prog 25 #[v] w (Gives (make l) w) := by
  have h' := h
  obtain ⟨a, cap, rfl, hlc, ⟨hcm, hcl, hcn⟩, hcs⟩ := h'
  clear hcn hcs
  have HG := Lib.hid (fun W (hW : Below w.heap.size w W) => gather_any l.length l (.slice a l.length cap) W (Nat.le_refl _) hl (h.below hW (Nat.le_refl _)))
  have HS := Lib.hid h
  have HL := Lib.hid hl
  clear h hl
  go_enter Tryz.func25, Tryz.ntmps25
  go_wp2
  go_loopw [8] (fun i wr => ∃ k : Nat, k ≤ l.length ∧ i = .int .i64 k ∧ Below w.heap.size w wr) (fun i _ => l.length - (intOf i).toNat)
  case atStart => exact ⟨0, Nat.zero_le _, rfl, Below.refl _ _⟩
  case round =>
    obtain ⟨k, hk, rfl, hb⟩ := hrel
    by_cases hlt : k < l.length
    · have hne : l ≠ [] := by intro e; rw [e] at hlt; simp at hlt
      obtain ⟨b, off, rfl, hbw, hc⟩ := HS.out.block hne
      have c1 := (hb.cell (p := ⟨b, off + k * 2, none⟩) hbw).trans (hc k hlt).1
      have c2 := (hb.cell (p := ⟨b, off + k * 2 + 1, none⟩) hbw).trans (hc k hlt).2
      have hok := HL.out (l[k]) (List.getElem_mem hlt)
      rw [← getD_eq hlt] at hok
      obtain ⟨x, hx⟩ : ∃ x, x = (l[k]?.getD (0, 0)).1 := ⟨_, rfl⟩
      obtain ⟨y, hy⟩ : ∃ y, y = (l[k]?.getD (0, 0)).2 := ⟨_, rfl⟩
      rw [← hx] at c1 hok
      rw [← hy] at c2 hok
      have HW := Lib.hid (fun W => isValid_yes x y W hok)
      clear hx hy hc hok
      have HB := Lib.hid (hb.alloc hb.size (.cells #[.int .i64 x, .int .i64 y] 31))
      have hz : w.heap.size ≤ (wr.alloc (.cells #[.int .i64 x, .int .i64 y] 31)).heap.size := HB.out.size
      go_wp2_with fail
      refine (HW.out _).mono ?_
      rintro e w1 ⟨rfl, hb1⟩
      have HE := Lib.hid (HB.out.trans (hb1.mono hz))
      clear hb1 hz
      go_wp2
      go_roundw
      case rel => exact ⟨k + 1, by omega, by go_num, HE.out⟩
      case measure => simp [intOf]; omega
    · go_wp2_with fail
      refine (HG.out _ hb).mono ?_
      rintro e w1 ⟨⟨v1, rfl, ho⟩, hb1⟩
      have HO := Lib.hid (own_mono ho hb.size)
      have HE := Lib.hid (hb.trans (hb1.mono hb.size))
      clear ho hb1
      go_wp2
      go_ret2
      exact ⟨⟨_, rfl, HO.out⟩, HE.out⟩

set_option maxRecDepth 100000 in
set_option maxHeartbeats 4000000 in
theorem Make_no (v : Value) (l : L) (hl : ¬ AllOk l) (w : World) (h : Spn w v l) : Calls Tryz.prog 25 #[v] w (Says (.tuple #[.slice none 0 0, .int .i64 2]) w) := by
  have h' := h
  obtain ⟨a, cap, rfl, hlc, ⟨hcm, hcl, hcn⟩, hcs⟩ := h'
  clear hcn hcs
  have HS := Lib.hid h
  have HL := Lib.hid hl
  clear h hl
  go_enter Tryz.func25, Tryz.ntmps25
  go_wp2
  go_loopw [8] (fun i wr => ∃ k : Nat, k ≤ l.length ∧ i = .int .i64 k ∧ Below w.heap.size w wr ∧ Hid (AllOk (l.take k))) (fun i _ => l.length - (intOf i).toNat)
  case atStart => exact ⟨0, Nat.zero_le _, rfl, Below.refl _ _, Lib.hid (fun s hs => by simp at hs)⟩
  case round =>
    obtain ⟨k, hk, rfl, hb, HK⟩ := hrel
    by_cases hlt : k < l.length
    · have hne : l ≠ [] := by intro e; rw [e] at hlt; simp at hlt
      obtain ⟨b, off, rfl, hbw, hc⟩ := HS.out.block hne
      have c1 := (hb.cell (p := ⟨b, off + k * 2, none⟩) hbw).trans (hc k hlt).1
      have c2 := (hb.cell (p := ⟨b, off + k * 2 + 1, none⟩) hbw).trans (hc k hlt).2
      have HT := Lib.hid (allOk_take hlt)
      obtain ⟨x, hx⟩ : ∃ x, x = (l[k]?.getD (0, 0)).1 := ⟨_, rfl⟩
      obtain ⟨y, hy⟩ : ∃ y, y = (l[k]?.getD (0, 0)).2 := ⟨_, rfl⟩
      rw [← hx] at c1 HT
      rw [← hy] at c2 HT
      clear hx hy hc
      have HB := Lib.hid (hb.alloc hb.size (.cells #[.int .i64 x, .int .i64 y] 31))
      have hz : w.heap.size ≤ (wr.alloc (.cells #[.int .i64 x, .int .i64 y] 31)).heap.size := HB.out.size
      rcases Bool.eq_false_or_eq_true (okB x y) with hok | hok
      · have HW := Lib.hid (fun W => isValid_yes x y W hok)
        have HF : Hid (AllOk (l.take (k + 1))) := Lib.hid (HT.out.2 ⟨HK.out, hok⟩)
        clear hok
        go_wp2_with fail
        refine (HW.out _).mono ?_
        rintro e w1 ⟨rfl, hb1⟩
        have HE := Lib.hid (HB.out.trans (hb1.mono hz))
        clear hb1 hz
        go_wp2
        go_roundw
        case rel => exact ⟨k + 1, by omega, by go_num, HE.out, HF⟩
        case measure => simp [intOf]; omega
      · have HW := Lib.hid (fun W => isValid_no x y W hok)
        clear hok
        go_wp2_with fail
        refine (HW.out _).mono ?_
        rintro e w1 ⟨rfl, hb1⟩
        have HE := Lib.hid (HB.out.trans (hb1.mono hz))
        clear hb1 hz
        go_wp2
        go_ret2
        exact ⟨rfl, HE.out⟩
    · exfalso
      have e : l.take k = l := List.take_of_length_le (by omega)
      have := HK.out
      rw [e] at this
      exact HL.out this

end Go.Proofs.YtanlaejdibikiaaGreat
