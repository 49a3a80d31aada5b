/-
The reference's Bridge.
-/
import Derived.Test.YtanlaejdibikiaaGreatRefE
import Derived.Test.YtanlaejdibikiaaGreatBridge
namespace Go.Proofs.YtanlaejdibikiaaGreat
open Go.RowKit Go.Shelf Sp

def GapN (n : Int) (l : L) (i : Nat) (d : Int) : Prop := ∃ (k : Nat) (h : k + 1 < l.length), k + 1 < i ∧ (l[k + 1]).1 - (l[k]).2 ≤ n ∧ (l[k]).2 ≤ d ∧ d < (l[k + 1]).1
noncomputable def gapB (n : Int) (l : L) (i : Nat) (d : Int) : Bool := @decide (GapN n l i d) (Classical.propDecidable _)
theorem gapB_iff (n : Int) (l : L) (i : Nat) (d : Int) : gapB n l i d = true ↔ GapN n l i d := by unfold gapB; simp
theorem gapB_one (n : Int) (l : L) (d : Int) : gapB n l 1 d = false := by
  rw [Bool.eq_false_iff, ne_eq, gapB_iff]
  rintro ⟨k, h, h1, _⟩
  omega
theorem gapB_next {n : Int} {l : L} {i : Nat} (h0 : 0 < i) (hi : i < l.length) (d : Int) :
    gapB n l (i + 1) d = (gapB n l i d || decide ((l[i]?.getD (0, 0)).1 - prevTo l i ≤ n ∧ prevTo l i ≤ d ∧ d < (l[i]?.getD (0, 0)).1)) := by
  obtain ⟨i, rfl⟩ : ∃ j, i = j + 1 := ⟨i - 1, by omega⟩
  rw [getD_eq hi, prevTo_eq h0 (by omega), Bool.eq_iff_iff]
  simp only [Nat.add_sub_cancel, Bool.or_eq_true, gapB_iff, decide_eq_true_eq]
  constructor
  · rintro ⟨k, h, h1, h2⟩
    by_cases e : k = i
    · subst e; exact .inr h2
    · exact .inl ⟨k, h, by omega, h2⟩
  · rintro (⟨k, h, h1, h2⟩ | h2)
    · exact ⟨k, h, by omega, h2⟩
    · exact ⟨i, hi, by omega, h2⟩
theorem bridge_all {n : Int} {l : L} (h : IsSet l) {i : Nat} (hi : l.length ≤ i) : IsSet (bridge n l) ∧ ∀ d, memB (bridge n l) d = (memB l d || gapB n l i d) := by
  rcases List.eq_nil_or_concat l with rfl | ⟨l', p, hl⟩
  · refine ⟨(by simp [bridge, IsSet, Chain]), fun d => ?_⟩
    rw [show bridge n [] = [] from rfl, memB_nil, Bool.false_or]
    symm
    rw [Bool.eq_false_iff, ne_eq, gapB_iff]
    rintro ⟨k, h, _⟩
    simp at h
  · rw [List.concat_eq_append] at hl
    subst hl
    obtain ⟨m, f, e, -, hset, hmem, -⟩ := bridge_spec (days := n) _ l' p rfl h
    rw [e]
    refine ⟨hset, fun d => ?_⟩
    rw [Bool.eq_iff_iff, memB_iff, hmem, Bool.or_eq_true, memB_iff, gapB_iff]
    constructor
    · rintro (h | ⟨k, h, h2⟩)
      · exact .inl h
      · exact .inr ⟨k, h, by omega, h2⟩
    · rintro (h | ⟨k, h, _, h2⟩)
      · exact .inl h
      · exact .inr ⟨k, h, h2⟩

set_option maxHeartbeats 4000000 in
theorem RBridge_no (v : Value) (l : L) (n : Int) (hl : ¬ IsSet l ∨ n < 0) (w : World) (h : Spn w v l) : Calls Tryz.prog 33 #[v, .int .i64 n] w (Says (.tuple #[.slice none 0 0, .int .i64 2]) w) := by
  have hv := RValid_any v l w h
  by_cases hs : IsSet l
  · rw [(vldB_iff l).2 hs] at hv
    have hn : n < 0 := hl.resolve_left (fun e => e hs)
    have HV := Lib.hid hv
    clear h hl hv hs
    go_enter Tryz.func33, Tryz.ntmps33
    go_wp2_with fail
    refine HV.out.mono ?_
    rintro e w1 ⟨rfl, hb1⟩
    have HB := Lib.hid hb1
    clear hb1
    go_wp2
    go_ret2
    exact ⟨rfl, HB.out⟩
  · rw [(vldB_not l).2 hs] at hv
    have HV := Lib.hid hv
    clear h hl hv hs
    go_enter Tryz.func33, Tryz.ntmps33
    go_wp2_with fail
    refine HV.out.mono ?_
    rintro e w1 ⟨rfl, hb1⟩
    have HB := Lib.hid hb1
    clear hb1
    go_wp2
    go_ret2
    exact ⟨rfl, HB.out⟩

set_option maxRecDepth 100000 in
set_option maxHeartbeats 8000000 in
theorem RBridge_ok (v : Value) (l : L) (n : Int) (h0 : 0 ≤ n) (h9 : n ≤ 9223372036854775807) (hl : IsSet l) (w : World) (h : Spn w v l) : Calls Tryz.prog 33 #[v, .int .i64 n] w (Gives (bridge n l) w) := by
  have hv := RValid_any v l w h
  rw [(vldB_iff l).2 hl] at hv
  have HV := Lib.hid hv
  have HG := Lib.hid (fun W (hW : Below w.heap.size w W) => Marks_ok v l (allOk_set hl) W (h.below hW (Nat.le_refl _)))
  have HQ := Lib.hid (fun (g i : Nat) (hi : l.length ≤ i) (W : World) (hR : W.rowIs g 4 65536 (fun j => .bool (memB l j || gapB n l i j))) => Set_ok g (fun d => memB l d || gapB n l i d) (bridge n l) (bridge_all hl hi).1 (fun d _ _ => ((bridge_all hl hi).2 d).symm) W hR)
  have HL := Lib.hid hl
  have HS := Lib.hid h
  obtain ⟨a, cap, rfl, hlc, ⟨hcm, hcl, hcn⟩, hcs⟩ := h
  clear hl hv hcn hcs
  have hnn : ¬ n < 0 := by omega
  go_enter Tryz.func33, Tryz.ntmps33
  go_wp2_with fail
  refine HV.out.mono ?_
  rintro e w1 ⟨rfl, hb1⟩
  have HB := Lib.hid hb1
  clear hb1
  go_wp2_with fail
  refine (HG.out _ HB.out).mono ?_
  rintro e w2 ⟨⟨g, hg, rfl, hR⟩, hb2⟩
  have HR := Lib.hid (show w2.rowIs g 4 65536 (fun j => .bool (memB l j || gapB n l 1 j)) from hR.congr fun j _ => by rw [gapB_one, Bool.or_false])
  have HE := Lib.hid (HB.out.trans (hb2.mono HB.out.size))
  have HG0 := Lib.hid (show w.heap.size ≤ g from Nat.le_trans HB.out.size hg)
  clear hb2 hg hR HB
  go_wp2_with fail
  go_loopw [7] (fun i wr => ∃ k : Nat, 1 ≤ k ∧ (k ≤ l.length ∨ k = 1) ∧ i = .int .i64 k ∧ Hid (wr.rowIs g 4 65536 (fun j => .bool (memB l j || gapB n l k j))) ∧ Below w.heap.size w wr) (fun i _ => l.length + 1 - (intOf i).toNat)
  case atStart => exact ⟨1, by omega, by omega, rfl, HR, HE.out⟩
  case round =>
    clear HR HE
    obtain ⟨k, hk1, hk, rfl, HK, hb⟩ := hrel
    by_cases hlt : k < l.length
    · have hne : l ≠ [] := by intro e; rw [e] at hlt; simp at hlt
      obtain ⟨b, off, rfl, hbw, hc⟩ := HS.out.block hne
      have hz1 := Chain.get HL.out hlt
      have hz2 := Chain.get HL.out (show k - 1 < l.length by omega)
      have hz3 := Chain.next HL.out (i := k - 1) (by omega)
      have HT := Lib.hid (fun t => gapB_next (n := n) hk1 hlt t)
      have hc1 := (hc k hlt).1
      have hc2 : w.cell? ⟨b, off + (k - 1) * 2 + 1, none⟩ = some (.int .i64 (prevTo l k)) := (hc (k - 1) (by omega)).2
      have ez : prevTo l k = (l[k - 1]).2 := prevTo_eq hk1 (by omega)
      have ex : (l[k]?.getD (0, 0)).1 = (l[k]).1 := by rw [getD_eq hlt]
      have hz4 : (l[k - 1]).2 < (l[k]).1 := by
        have e : ∀ j (hj : j < l.length), j = k → (l[k - 1]).2 < (l[j]).1 → (l[k - 1]).2 < (l[k]).1 := by intro j hj e h; subst e; exact h
        exact e _ _ (show k - 1 + 1 = k by omega) hz3
      rw [← ex] at hz1 hz4
      rw [← ez] at hz2 hz4
      clear ex ez hz3
      obtain ⟨x, hx⟩ : ∃ x, x = (l[k]?.getD (0, 0)).1 := ⟨_, rfl⟩
      obtain ⟨z, hz⟩ : ∃ z, z = prevTo l k := ⟨_, rfl⟩
      rw [← hx] at hc1 hz1 hz4 HT
      rw [← hz] at hc2 hz2 hz4 HT
      have xb : z < x ∧ 0 ≤ z ∧ x ≤ 65536 := by omega
      clear hx hz hc hz1 hz2 hz4
      obtain ⟨xb1, xb2, xb3⟩ := xb
      obtain ⟨X, rfl⟩ : ∃ X : Nat, x = X := ⟨x.toNat, by omega⟩
      obtain ⟨Z, rfl⟩ : ∃ Z : Nat, z = Z := ⟨z.toNat, by omega⟩
      have c1 := (hb.cell (p := ⟨b, off + k * 2, none⟩) hbw).trans hc1
      have c2 := (hb.cell (p := ⟨b, off + (k - 1) * 2 + 1, none⟩) hbw).trans hc2
      have k9 : (k : Int) < (l.length : Int) := by omega
      have q1 : IntKind.i64.wrap ((k : Int) - 1) = (k : Int) - 1 := IntWalk.i64_in _ (by omega)
      have q2 : (1 : Int) ≤ (k : Int) := by omega
      have q3 : (k : Int) - 1 < (l.length : Int) := by omega
      have q4 : ((k : Int) - 1).toNat = k - 1 := by omega
      have q5 : k - 1 < l.length := by omega
      have q6 : IntKind.i64.wrap ((X : Int) - (Z : Int)) = (X : Int) - (Z : Int) := IntWalk.i64_in _ (by omega)
      have HBR := Lib.hid hb
      clear hb
      by_cases hgap : (X : Int) - (Z : Int) ≤ n
      · go_wp2_with fail
        refine wp_region_noPanic ?_
        refine wp_region_held_drew (S := (fun w' => w'.cell? ⟨b, off + k * 2, none⟩ = some (.int .i64 X) ∧ w'.cell? ⟨b, off + (k - 1) * 2 + 1, none⟩ = some (.int .i64 Z))) (by kernel_rfl) ⟨c1, c2⟩ (fun hR0 => ?_)
        change wpAnyH _ _ _ _ _ 14 #[false, false, false, false, false, false, false, false, false, false, false, false, false, false] _ _
        clear c1 c2
        refine wpAnyH_take (i := 0) (oi := { dst := some 24, op := Op.move (Operand.tmp 0), type := 22, pos := "ref.go:84", after := #[], guard := none }) (v := ?_) rfl (by kernel_rfl) (by kernel_rfl) (by kernel_rfl) (fun _ _ _ h => h) (Or.inl ⟨by rfl, ?_⟩) (by assumption) ?_
        rotate_left 1
        · (intro w hSw; (try dsimp only at hSw); go_simp <;> (with_reducible rfl))
        (first | ((fail_if_success (unfold Act.put)); (try simp only [List.setIfInBounds_toArray, List.set_cons_zero, List.set_cons_succ])) | (try simp only [Act.put, List.setIfInBounds_toArray, List.set_cons_zero, List.set_cons_succ]))
        refine wpAnyH_take (i := 1) (oi := { dst := some 25, op := Op.move (Operand.tmp 7), type := 3, pos := "ref.go:84", after := #[], guard := none }) (v := ?_) rfl (by kernel_rfl) (by kernel_rfl) (by kernel_rfl) (fun _ _ _ h => h) (Or.inl ⟨by rfl, ?_⟩) (by assumption) ?_
        rotate_left 1
        · (intro w hSw; (try dsimp only at hSw); go_simp <;> (with_reducible rfl))
        (first | ((fail_if_success (unfold Act.put)); (try simp only [List.setIfInBounds_toArray, List.set_cons_zero, List.set_cons_succ])) | (try simp only [Act.put, List.setIfInBounds_toArray, List.set_cons_zero, List.set_cons_succ]))
        refine wpAnyH_take (i := 2) (oi := { dst := some 26, op := Op.indexAddr 22 (Operand.tmp 24) (Operand.tmp 25), type := 0, pos := "ref.go:84", after := #[{ on := 0, ground := Ground.data }, { on := 1, ground := Ground.data }], guard := none }) (v := ?_) rfl (by kernel_rfl) (by kernel_rfl) (by kernel_rfl) (fun _ _ _ h => h) (Or.inl ⟨by rfl, ?_⟩) (by assumption) ?_
        rotate_left 1
        · (intro w hSw; (try dsimp only at hSw); go_simp <;> (with_reducible rfl))
        (first | ((fail_if_success (unfold Act.put)); (try simp only [List.setIfInBounds_toArray, List.set_cons_zero, List.set_cons_succ])) | (try simp only [Act.put, List.setIfInBounds_toArray, List.set_cons_zero, List.set_cons_succ]))
        refine wpAnyH_take (i := 3) (oi := { dst := some 27, op := Op.fieldAddr 31 (Operand.tmp 26) 0, type := 0, pos := "ref.go:84", after := #[{ on := 2, ground := Ground.data }], guard := none }) (v := ?_) rfl (by kernel_rfl) (by kernel_rfl) (by kernel_rfl) (fun _ _ _ h => h) (Or.inl ⟨by rfl, ?_⟩) (by assumption) ?_
        rotate_left 1
        · (intro w hSw; (try dsimp only at hSw); go_simp <;> (with_reducible rfl))
        (first | ((fail_if_success (unfold Act.put)); (try simp only [List.setIfInBounds_toArray, List.set_cons_zero, List.set_cons_succ])) | (try simp only [Act.put, List.setIfInBounds_toArray, List.set_cons_zero, List.set_cons_succ]))
        refine wpAnyH_take (i := 4) (oi := { dst := some 28, op := Op.load 3 (Operand.tmp 27), type := 3, pos := "ref.go:84", after := #[{ on := 3, ground := Ground.data }], guard := none }) (v := ?_) rfl (by kernel_rfl) (by kernel_rfl) (by kernel_rfl) (fun _ _ _ h => h) (Or.inl ⟨by rfl, ?_⟩) (by assumption) ?_
        rotate_left 1
        · (intro w hSw; (try dsimp only at hSw); go_simp <;> (with_reducible rfl))
        (first | ((fail_if_success (unfold Act.put)); (try simp only [List.setIfInBounds_toArray, List.set_cons_zero, List.set_cons_succ])) | (try simp only [Act.put, List.setIfInBounds_toArray, List.set_cons_zero, List.set_cons_succ]))
        refine wpAnyH_take (i := 5) (oi := { dst := some 29, op := Op.move (Operand.tmp 0), type := 22, pos := "ref.go:84", after := #[], guard := none }) (v := ?_) rfl (by kernel_rfl) (by kernel_rfl) (by kernel_rfl) (fun _ _ _ h => h) (Or.inl ⟨by rfl, ?_⟩) (by assumption) ?_
        rotate_left 1
        · (intro w hSw; (try dsimp only at hSw); go_simp <;> (with_reducible rfl))
        (first | ((fail_if_success (unfold Act.put)); (try simp only [List.setIfInBounds_toArray, List.set_cons_zero, List.set_cons_succ])) | (try simp only [Act.put, List.setIfInBounds_toArray, List.set_cons_zero, List.set_cons_succ]))
        refine wpAnyH_take (i := 6) (oi := { dst := some 30, op := Op.move (Operand.tmp 7), type := 3, pos := "ref.go:84", after := #[], guard := none }) (v := ?_) rfl (by kernel_rfl) (by kernel_rfl) (by kernel_rfl) (fun _ _ _ h => h) (Or.inl ⟨by rfl, ?_⟩) (by assumption) ?_
        rotate_left 1
        · (intro w hSw; (try dsimp only at hSw); go_simp <;> (with_reducible rfl))
        (first | ((fail_if_success (unfold Act.put)); (try simp only [List.setIfInBounds_toArray, List.set_cons_zero, List.set_cons_succ])) | (try simp only [Act.put, List.setIfInBounds_toArray, List.set_cons_zero, List.set_cons_succ]))
        refine wpAnyH_take (i := 7) (oi := { dst := some 31, op := Op.binOp BinOp.sub 3 (Operand.tmp 30) (Operand.const (Value.int IntKind.i64 1)) 3, type := 3, pos := "ref.go:84", after := #[{ on := 6, ground := Ground.data }], guard := none }) (v := ?_) rfl (by kernel_rfl) (by kernel_rfl) (by kernel_rfl) (fun _ _ _ h => h) (Or.inl ⟨by rfl, ?_⟩) (by assumption) ?_
        rotate_left 1
        · (intro w hSw; (try dsimp only at hSw); go_simp <;> (with_reducible rfl))
        (first | ((fail_if_success (unfold Act.put)); (try simp only [List.setIfInBounds_toArray, List.set_cons_zero, List.set_cons_succ])) | (try simp only [Act.put, List.setIfInBounds_toArray, List.set_cons_zero, List.set_cons_succ]))
        refine wpAnyH_take (i := 8) (oi := { dst := some 32, op := Op.indexAddr 22 (Operand.tmp 29) (Operand.tmp 31), type := 0, pos := "ref.go:84", after := #[{ on := 5, ground := Ground.data }, { on := 7, ground := Ground.data }], guard := none }) (v := ?_) rfl (by kernel_rfl) (by kernel_rfl) (by kernel_rfl) (fun _ _ _ h => h) (Or.inl ⟨by rfl, ?_⟩) (by assumption) ?_
        rotate_left 1
        · (intro w hSw; (try dsimp only at hSw); go_simp <;> (with_reducible rfl))
        (first | ((fail_if_success (unfold Act.put)); (try simp only [List.setIfInBounds_toArray, List.set_cons_zero, List.set_cons_succ])) | (try simp only [Act.put, List.setIfInBounds_toArray, List.set_cons_zero, List.set_cons_succ]))
        refine wpAnyH_take (i := 9) (oi := { dst := some 33, op := Op.fieldAddr 31 (Operand.tmp 32) 1, type := 0, pos := "ref.go:84", after := #[{ on := 8, ground := Ground.data }], guard := none }) (v := ?_) rfl (by kernel_rfl) (by kernel_rfl) (by kernel_rfl) (fun _ _ _ h => h) (Or.inl ⟨by rfl, ?_⟩) (by assumption) ?_
        rotate_left 1
        · (intro w hSw; (try dsimp only at hSw); go_simp <;> (with_reducible rfl))
        (first | ((fail_if_success (unfold Act.put)); (try simp only [List.setIfInBounds_toArray, List.set_cons_zero, List.set_cons_succ])) | (try simp only [Act.put, List.setIfInBounds_toArray, List.set_cons_zero, List.set_cons_succ]))
        refine wpAnyH_take (i := 10) (oi := { dst := some 34, op := Op.load 3 (Operand.tmp 33), type := 3, pos := "ref.go:84", after := #[{ on := 9, ground := Ground.data }], guard := none }) (v := ?_) rfl (by kernel_rfl) (by kernel_rfl) (by kernel_rfl) (fun _ _ _ h => h) (Or.inl ⟨by rfl, ?_⟩) (by assumption) ?_
        rotate_left 1
        · (intro w hSw; (try dsimp only at hSw); go_simp <;> (with_reducible rfl))
        (first | ((fail_if_success (unfold Act.put)); (try simp only [List.setIfInBounds_toArray, List.set_cons_zero, List.set_cons_succ])) | (try simp only [Act.put, List.setIfInBounds_toArray, List.set_cons_zero, List.set_cons_succ]))
        refine wpAnyH_take (i := 11) (oi := { dst := some 35, op := Op.binOp BinOp.sub 3 (Operand.tmp 28) (Operand.tmp 34) 3, type := 3, pos := "ref.go:84", after := #[{ on := 4, ground := Ground.data }, { on := 10, ground := Ground.data }], guard := none }) (v := ?_) rfl (by kernel_rfl) (by kernel_rfl) (by kernel_rfl) (fun _ _ _ h => h) (Or.inl ⟨by rfl, ?_⟩) (by assumption) ?_
        rotate_left 1
        · (intro w hSw; (try dsimp only at hSw); go_simp <;> (with_reducible rfl))
        (first | ((fail_if_success (unfold Act.put)); (try simp only [List.setIfInBounds_toArray, List.set_cons_zero, List.set_cons_succ])) | (try simp only [Act.put, List.setIfInBounds_toArray, List.set_cons_zero, List.set_cons_succ]))
        refine wpAnyH_take (i := 12) (oi := { dst := some 36, op := Op.move (Operand.tmp 1), type := 3, pos := "ref.go:84", after := #[], guard := none }) (v := ?_) rfl (by kernel_rfl) (by kernel_rfl) (by kernel_rfl) (fun _ _ _ h => h) (Or.inl ⟨by rfl, ?_⟩) (by assumption) ?_
        rotate_left 1
        · (intro w hSw; (try dsimp only at hSw); go_simp <;> (with_reducible rfl))
        (first | ((fail_if_success (unfold Act.put)); (try simp only [List.setIfInBounds_toArray, List.set_cons_zero, List.set_cons_succ])) | (try simp only [Act.put, List.setIfInBounds_toArray, List.set_cons_zero, List.set_cons_succ]))
        refine wpAnyH_take (i := 13) (oi := { dst := some 37, op := Op.binOp BinOp.leq 3 (Operand.tmp 35) (Operand.tmp 36) 3, type := 4, pos := "ref.go:84", after := #[{ on := 11, ground := Ground.data }, { on := 12, ground := Ground.data }], guard := none }) (v := ?_) rfl (by kernel_rfl) (by kernel_rfl) (by kernel_rfl) (fun _ _ _ h => h) (Or.inl ⟨by rfl, ?_⟩) (by assumption) ?_
        rotate_left 1
        · (intro w hSw; (try dsimp only at hSw); go_simp <;> (with_reducible rfl))
        (first | ((fail_if_success (unfold Act.put)); (try simp only [List.setIfInBounds_toArray, List.set_cons_zero, List.set_cons_succ])) | (try simp only [Act.put, List.setIfInBounds_toArray, List.set_cons_zero, List.set_cons_succ]))
        refine wpAnyH_done (by kernel_rfl) ?_ _
        refine NoPanic.normal ?_
        clear hR0
        have HBD := Lib.hid (HBR.out.drew)
        have HKD := Lib.hid (HK.out.drew)
        have c1 := (HBD.out.cell (p := ⟨b, off + k * 2, none⟩) hbw).trans hc1
        have c2 := (HBD.out.cell (p := ⟨b, off + (k - 1) * 2 + 1, none⟩) hbw).trans hc2
        go_wp2_with fail
        go_loopw [8] (fun i wx => ∃ j : Nat, Z ≤ j ∧ j ≤ X ∧ i = .int .i64 j ∧ Hid (wx.rowIs g 4 65536 (fun t => .bool (memB l t || gapB n l k t || decide ((Z : Int) ≤ t ∧ (t : Int) < j)))) ∧ Below w.heap.size w wx) (fun i _ => X - (intOf i).toNat)
        case atStart => exact ⟨Z, by omega, by omega, rfl, Lib.hid (HKD.out.congr fun i _ => by rw [show decide ((Z : Int) ≤ (i : Int) ∧ (i : Int) < (Z : Int)) = false from decide_eq_false (by omega), Bool.or_false]), HBD.out⟩
        case round =>
          obtain ⟨j, hj1, hj2, rfl, HJ, hbx⟩ := hrel
          have c3 := (hbx.cell (p := ⟨b, off + k * 2, none⟩) hbw).trans hc1
          by_cases hjy : j < X
          · have f1 := HJ.out.frozen j
            have f2 := HJ.out.cell (i := j) (by omega)
            have HN : Hid ((_ : World).rowIs g 4 65536 (fun t => .bool (memB l t || gapB n l k t || decide ((Z : Int) ≤ t ∧ (t : Int) < ((j + 1 : Nat) : Int))))) := Lib.hid ((HJ.out.set j (.bool true)).congr fun t _ => by
              by_cases e : t = j
              · subst e; rw [if_pos rfl, decide_eq_true (show (Z : Int) ≤ (t : Int) ∧ (t : Int) < ((t + 1 : Nat) : Int) from by omega), Bool.or_true]
              · rw [if_neg e]; congr 2; apply decide_eq_decide.2; omega)
            have HB2 := Lib.hid (hbx.setCell (p := ⟨g, j, none⟩) HG0.out (.bool true))
            clear hbx
            have j9 : (j : Int) < 65536 := by omega
            have j8 : (j : Int) < (X : Int) := by omega
            clear q1 q2 q3 q4 q5 q6
            go_wp2
            go_roundw
            case rel => exact ⟨j + 1, by omega, by omega, by go_num, HN, HB2.out⟩
            case measure => simp [intOf]; omega
          · obtain rfl : j = X := by omega
            have HN : Hid ((_ : World).rowIs g 4 65536 (fun t => .bool (memB l t || gapB n l (k + 1) t))) := Lib.hid (HJ.out.congr fun t _ => by
              rw [HT.out, Bool.or_assoc]; congr 3; apply decide_eq_decide.2; constructor
              · intro h; exact ⟨hgap, h⟩
              · intro h; exact h.2)
            have HBX := Lib.hid hbx
            clear hbx q1 q2 q3 q4 q5 q6
            go_wp2
            go_roundw
            case rel => exact ⟨k + 1, by omega, by omega, by go_num, HN, HBX.out⟩
            case measure => simp [intOf]; omega
      · go_wp2_with fail
        refine wp_region_noPanic ?_
        refine wp_region_held_drew (S := (fun w' => w'.cell? ⟨b, off + k * 2, none⟩ = some (.int .i64 X) ∧ w'.cell? ⟨b, off + (k - 1) * 2 + 1, none⟩ = some (.int .i64 Z))) (by kernel_rfl) ⟨c1, c2⟩ (fun hR0 => ?_)
        change wpAnyH _ _ _ _ _ 14 #[false, false, false, false, false, false, false, false, false, false, false, false, false, false] _ _
        clear c1 c2
        refine wpAnyH_take (i := 0) (oi := { dst := some 24, op := Op.move (Operand.tmp 0), type := 22, pos := "ref.go:84", after := #[], guard := none }) (v := ?_) rfl (by kernel_rfl) (by kernel_rfl) (by kernel_rfl) (fun _ _ _ h => h) (Or.inl ⟨by rfl, ?_⟩) (by assumption) ?_
        rotate_left 1
        · (intro w hSw; (try dsimp only at hSw); go_simp <;> (with_reducible rfl))
        (first | ((fail_if_success (unfold Act.put)); (try simp only [List.setIfInBounds_toArray, List.set_cons_zero, List.set_cons_succ])) | (try simp only [Act.put, List.setIfInBounds_toArray, List.set_cons_zero, List.set_cons_succ]))
        refine wpAnyH_take (i := 1) (oi := { dst := some 25, op := Op.move (Operand.tmp 7), type := 3, pos := "ref.go:84", after := #[], guard := none }) (v := ?_) rfl (by kernel_rfl) (by kernel_rfl) (by kernel_rfl) (fun _ _ _ h => h) (Or.inl ⟨by rfl, ?_⟩) (by assumption) ?_
        rotate_left 1
        · (intro w hSw; (try dsimp only at hSw); go_simp <;> (with_reducible rfl))
        (first | ((fail_if_success (unfold Act.put)); (try simp only [List.setIfInBounds_toArray, List.set_cons_zero, List.set_cons_succ])) | (try simp only [Act.put, List.setIfInBounds_toArray, List.set_cons_zero, List.set_cons_succ]))
        refine wpAnyH_take (i := 2) (oi := { dst := some 26, op := Op.indexAddr 22 (Operand.tmp 24) (Operand.tmp 25), type := 0, pos := "ref.go:84", after := #[{ on := 0, ground := Ground.data }, { on := 1, ground := Ground.data }], guard := none }) (v := ?_) rfl (by kernel_rfl) (by kernel_rfl) (by kernel_rfl) (fun _ _ _ h => h) (Or.inl ⟨by rfl, ?_⟩) (by assumption) ?_
        rotate_left 1
        · (intro w hSw; (try dsimp only at hSw); go_simp <;> (with_reducible rfl))
        (first | ((fail_if_success (unfold Act.put)); (try simp only [List.setIfInBounds_toArray, List.set_cons_zero, List.set_cons_succ])) | (try simp only [Act.put, List.setIfInBounds_toArray, List.set_cons_zero, List.set_cons_succ]))
        refine wpAnyH_take (i := 3) (oi := { dst := some 27, op := Op.fieldAddr 31 (Operand.tmp 26) 0, type := 0, pos := "ref.go:84", after := #[{ on := 2, ground := Ground.data }], guard := none }) (v := ?_) rfl (by kernel_rfl) (by kernel_rfl) (by kernel_rfl) (fun _ _ _ h => h) (Or.inl ⟨by rfl, ?_⟩) (by assumption) ?_
        rotate_left 1
        · (intro w hSw; (try dsimp only at hSw); go_simp <;> (with_reducible rfl))
        (first | ((fail_if_success (unfold Act.put)); (try simp only [List.setIfInBounds_toArray, List.set_cons_zero, List.set_cons_succ])) | (try simp only [Act.put, List.setIfInBounds_toArray, List.set_cons_zero, List.set_cons_succ]))
        refine wpAnyH_take (i := 4) (oi := { dst := some 28, op := Op.load 3 (Operand.tmp 27), type := 3, pos := "ref.go:84", after := #[{ on := 3, ground := Ground.data }], guard := none }) (v := ?_) rfl (by kernel_rfl) (by kernel_rfl) (by kernel_rfl) (fun _ _ _ h => h) (Or.inl ⟨by rfl, ?_⟩) (by assumption) ?_
        rotate_left 1
        · (intro w hSw; (try dsimp only at hSw); go_simp <;> (with_reducible rfl))
        (first | ((fail_if_success (unfold Act.put)); (try simp only [List.setIfInBounds_toArray, List.set_cons_zero, List.set_cons_succ])) | (try simp only [Act.put, List.setIfInBounds_toArray, List.set_cons_zero, List.set_cons_succ]))
        refine wpAnyH_take (i := 5) (oi := { dst := some 29, op := Op.move (Operand.tmp 0), type := 22, pos := "ref.go:84", after := #[], guard := none }) (v := ?_) rfl (by kernel_rfl) (by kernel_rfl) (by kernel_rfl) (fun _ _ _ h => h) (Or.inl ⟨by rfl, ?_⟩) (by assumption) ?_
        rotate_left 1
        · (intro w hSw; (try dsimp only at hSw); go_simp <;> (with_reducible rfl))
        (first | ((fail_if_success (unfold Act.put)); (try simp only [List.setIfInBounds_toArray, List.set_cons_zero, List.set_cons_succ])) | (try simp only [Act.put, List.setIfInBounds_toArray, List.set_cons_zero, List.set_cons_succ]))
        refine wpAnyH_take (i := 6) (oi := { dst := some 30, op := Op.move (Operand.tmp 7), type := 3, pos := "ref.go:84", after := #[], guard := none }) (v := ?_) rfl (by kernel_rfl) (by kernel_rfl) (by kernel_rfl) (fun _ _ _ h => h) (Or.inl ⟨by rfl, ?_⟩) (by assumption) ?_
        rotate_left 1
        · (intro w hSw; (try dsimp only at hSw); go_simp <;> (with_reducible rfl))
        (first | ((fail_if_success (unfold Act.put)); (try simp only [List.setIfInBounds_toArray, List.set_cons_zero, List.set_cons_succ])) | (try simp only [Act.put, List.setIfInBounds_toArray, List.set_cons_zero, List.set_cons_succ]))
        refine wpAnyH_take (i := 7) (oi := { dst := some 31, op := Op.binOp BinOp.sub 3 (Operand.tmp 30) (Operand.const (Value.int IntKind.i64 1)) 3, type := 3, pos := "ref.go:84", after := #[{ on := 6, ground := Ground.data }], guard := none }) (v := ?_) rfl (by kernel_rfl) (by kernel_rfl) (by kernel_rfl) (fun _ _ _ h => h) (Or.inl ⟨by rfl, ?_⟩) (by assumption) ?_
        rotate_left 1
        · (intro w hSw; (try dsimp only at hSw); go_simp <;> (with_reducible rfl))
        (first | ((fail_if_success (unfold Act.put)); (try simp only [List.setIfInBounds_toArray, List.set_cons_zero, List.set_cons_succ])) | (try simp only [Act.put, List.setIfInBounds_toArray, List.set_cons_zero, List.set_cons_succ]))
        refine wpAnyH_take (i := 8) (oi := { dst := some 32, op := Op.indexAddr 22 (Operand.tmp 29) (Operand.tmp 31), type := 0, pos := "ref.go:84", after := #[{ on := 5, ground := Ground.data }, { on := 7, ground := Ground.data }], guard := none }) (v := ?_) rfl (by kernel_rfl) (by kernel_rfl) (by kernel_rfl) (fun _ _ _ h => h) (Or.inl ⟨by rfl, ?_⟩) (by assumption) ?_
        rotate_left 1
        · (intro w hSw; (try dsimp only at hSw); go_simp <;> (with_reducible rfl))
        (first | ((fail_if_success (unfold Act.put)); (try simp only [List.setIfInBounds_toArray, List.set_cons_zero, List.set_cons_succ])) | (try simp only [Act.put, List.setIfInBounds_toArray, List.set_cons_zero, List.set_cons_succ]))
        refine wpAnyH_take (i := 9) (oi := { dst := some 33, op := Op.fieldAddr 31 (Operand.tmp 32) 1, type := 0, pos := "ref.go:84", after := #[{ on := 8, ground := Ground.data }], guard := none }) (v := ?_) rfl (by kernel_rfl) (by kernel_rfl) (by kernel_rfl) (fun _ _ _ h => h) (Or.inl ⟨by rfl, ?_⟩) (by assumption) ?_
        rotate_left 1
        · (intro w hSw; (try dsimp only at hSw); go_simp <;> (with_reducible rfl))
        (first | ((fail_if_success (unfold Act.put)); (try simp only [List.setIfInBounds_toArray, List.set_cons_zero, List.set_cons_succ])) | (try simp only [Act.put, List.setIfInBounds_toArray, List.set_cons_zero, List.set_cons_succ]))
        refine wpAnyH_take (i := 10) (oi := { dst := some 34, op := Op.load 3 (Operand.tmp 33), type := 3, pos := "ref.go:84", after := #[{ on := 9, ground := Ground.data }], guard := none }) (v := ?_) rfl (by kernel_rfl) (by kernel_rfl) (by kernel_rfl) (fun _ _ _ h => h) (Or.inl ⟨by rfl, ?_⟩) (by assumption) ?_
        rotate_left 1
        · (intro w hSw; (try dsimp only at hSw); go_simp <;> (with_reducible rfl))
        (first | ((fail_if_success (unfold Act.put)); (try simp only [List.setIfInBounds_toArray, List.set_cons_zero, List.set_cons_succ])) | (try simp only [Act.put, List.setIfInBounds_toArray, List.set_cons_zero, List.set_cons_succ]))
        refine wpAnyH_take (i := 11) (oi := { dst := some 35, op := Op.binOp BinOp.sub 3 (Operand.tmp 28) (Operand.tmp 34) 3, type := 3, pos := "ref.go:84", after := #[{ on := 4, ground := Ground.data }, { on := 10, ground := Ground.data }], guard := none }) (v := ?_) rfl (by kernel_rfl) (by kernel_rfl) (by kernel_rfl) (fun _ _ _ h => h) (Or.inl ⟨by rfl, ?_⟩) (by assumption) ?_
        rotate_left 1
        · (intro w hSw; (try dsimp only at hSw); go_simp <;> (with_reducible rfl))
        (first | ((fail_if_success (unfold Act.put)); (try simp only [List.setIfInBounds_toArray, List.set_cons_zero, List.set_cons_succ])) | (try simp only [Act.put, List.setIfInBounds_toArray, List.set_cons_zero, List.set_cons_succ]))
        refine wpAnyH_take (i := 12) (oi := { dst := some 36, op := Op.move (Operand.tmp 1), type := 3, pos := "ref.go:84", after := #[], guard := none }) (v := ?_) rfl (by kernel_rfl) (by kernel_rfl) (by kernel_rfl) (fun _ _ _ h => h) (Or.inl ⟨by rfl, ?_⟩) (by assumption) ?_
        rotate_left 1
        · (intro w hSw; (try dsimp only at hSw); go_simp <;> (with_reducible rfl))
        (first | ((fail_if_success (unfold Act.put)); (try simp only [List.setIfInBounds_toArray, List.set_cons_zero, List.set_cons_succ])) | (try simp only [Act.put, List.setIfInBounds_toArray, List.set_cons_zero, List.set_cons_succ]))
        refine wpAnyH_take (i := 13) (oi := { dst := some 37, op := Op.binOp BinOp.leq 3 (Operand.tmp 35) (Operand.tmp 36) 3, type := 4, pos := "ref.go:84", after := #[{ on := 11, ground := Ground.data }, { on := 12, ground := Ground.data }], guard := none }) (v := ?_) rfl (by kernel_rfl) (by kernel_rfl) (by kernel_rfl) (fun _ _ _ h => h) (Or.inl ⟨by rfl, ?_⟩) (by assumption) ?_
        rotate_left 1
        · (intro w hSw; (try dsimp only at hSw); go_simp <;> (with_reducible rfl))
        (first | ((fail_if_success (unfold Act.put)); (try simp only [List.setIfInBounds_toArray, List.set_cons_zero, List.set_cons_succ])) | (try simp only [Act.put, List.setIfInBounds_toArray, List.set_cons_zero, List.set_cons_succ]))
        refine wpAnyH_done (by kernel_rfl) ?_ _
        refine NoPanic.normal ?_
        clear hR0
        have HBD := Lib.hid (HBR.out.drew)
        have HN : Hid ((_ : World).rowIs g 4 65536 (fun t => .bool (memB l t || gapB n l (k + 1) t))) := Lib.hid (HK.out.drew.congr fun t _ => by
          rw [HT.out, decide_eq_false (show ¬ ((X : Int) - (Z : Int) ≤ n ∧ (Z : Int) ≤ (t : Int) ∧ (t : Int) < (X : Int)) from by omega), Bool.or_false])
        clear q1 q2 q3 q4 q5 q6
        go_wp2
        go_roundw
        case rel => exact ⟨k + 1, by omega, by omega, by go_num, HN, HBD.out⟩
        case measure => simp [intOf]; omega
    · have HBR := Lib.hid hb
      clear hb
      go_wp2_with fail
      refine (HQ.out g k (by omega) _ HK.out).mono ?_
      rintro e w3 ⟨⟨v1, rfl, ho⟩, hb3⟩
      have HO := Lib.hid (own_mono ho HBR.out.size)
      have HZ := Lib.hid (HBR.out.trans (hb3.mono HBR.out.size))
      clear ho hb3
      go_wp2
      go_ret2
      exact ⟨⟨_, rfl, HO.out⟩, HZ.out⟩

end Go.Proofs.YtanlaejdibikiaaGreat
