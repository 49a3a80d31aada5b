/-
KeptSpans, OverSpans.
-/
import Derived.Test.YtanlaejdibikiaaGreatLent
namespace Go.Proofs.YtanlaejdibikiaaGreat
open Go.RowKit Go.Shelf Sp

theorem Lent.spn {base : Nat} {W : World} {v : Value} {l : L} (h : Lent base W v l) (hl : l.length ≤ 8796093022208) : Spn W v l := by
  obtain ⟨b, cap, rfl, _, hc, ho⟩ := h
  have hcap : cap ≤ maxLen := by
    rcases ho.2 with ⟨h', _⟩ | ⟨g, cap', cur, h', _, _, _, hm, _⟩
    · simp at h'
    · simp only [Value.slice.injEq, Option.some.injEq, Addr.mk.injEq, and_true, true_and] at h'
      rw [h'.2]; exact hm
  unfold maxLen at hcap
  refine ⟨_, cap, rfl, by omega, ⟨hcap, hl, fun e => by cases e⟩, .inr ⟨b, 0, rfl, fun j hj => ?_⟩⟩
  obtain ⟨g1, g2⟩ := cellsS_get (l ++ mks 12) j (by rw [List.length_append]; omega)
  rw [List.getElem?_append_left hj] at g1 g2
  rw [Nat.zero_add, ho.cellAt _ (by omega), ho.cellAt _ (by omega)]
  exact ⟨g1, g2⟩
theorem Lent.below {base : Nat} {W W' : World} {v : Value} {l : L} (h : Lent base W v l) (hb : Below W.heap.size W W') : Lent base W' v l := by
  obtain ⟨b, cap, rfl, h1, hc, ho⟩ := h
  exact ⟨b, cap, rfl, h1, hc, ho.kept (grown_of_below hb) (Classical.em _)⟩

set_option maxRecDepth 100000 in
set_option maxHeartbeats 8000000 in
theorem KeptSpans_any (base : Nat) (v u : Value) (l : L) (hl : l.length ≤ 1000) (w : World) (h : Lent base w v l) (hu : Spn w u l) : Calls Tryz.prog 18 #[v, u] w (Says (.bool true) w) := by
  obtain ⟨B, cap, rfl, -, hcap, ho⟩ := h
  have hu' := hu
  obtain ⟨a, cap2, rfl, hlc, ⟨hcm, hcl, hcn⟩, hcs⟩ := hu'
  clear hcs hcn
  have HU := Lib.hid hu
  have HO := Lib.hid ho
  have hBw : B < w.heap.size := (ho.lt B rfl).2
  clear hu ho
  have HM := Lib.hid (fun (i : Int) (h0 : 0 ≤ i) (h1 : i ≤ 1000) W => markSpan_any 1 i (by omega) (by omega) W)
  go_enter Tryz.func18, Tryz.ntmps18
  go_wp2
  go_loopw [6] (fun i wr => ∃ k : Nat, k ≤ l.length + 12 ∧ i = .int .i64 k ∧ Below w.heap.size w wr) (fun i _ => l.length + 12 - (intOf i).toNat)
  case atStart => exact ⟨0, by omega, rfl, Below.refl _ _⟩
  case round =>
    obtain ⟨k, hk, rfl, hb⟩ := hrel
    by_cases hlt : k < l.length + 12
    · obtain ⟨g1, g2⟩ := cellsS_get (l ++ mks 12) k (by rw [List.length_append, mks_length]; omega)
      have c1 := (hb.cell (p := ⟨B, k * 2, none⟩) hBw).trans ((HO.out.cellAt (k * 2) (by omega)).trans g1)
      have c2 := (hb.cell (p := ⟨B, k * 2 + 1, none⟩) hBw).trans ((HO.out.cellAt (k * 2 + 1) (by omega)).trans g2)
      clear g1 g2
      have k9 : (k : Int) < (l.length : Int) + 12 := by omega
      have hBr : B < wr.heap.size := Nat.lt_of_lt_of_le hBw hb.size
      by_cases hkl : k < l.length
      · rw [List.getElem?_append_left hkl] at c1 c2
        obtain ⟨ab, off, rfl, hbw, hc⟩ := HU.out.block (by intro e; rw [e] at hkl; simp at hkl)
        have c3 := (hb.cell (p := ⟨ab, off + k * 2, none⟩) hbw).trans (hc k hkl).1
        have c4 := (hb.cell (p := ⟨ab, off + k * 2 + 1, none⟩) hbw).trans (hc k hkl).2
        have hbwr : ab < wr.heap.size := Nat.lt_of_lt_of_le hbw hb.size
        obtain ⟨x, hx⟩ : ∃ x, x = (l[k]?.getD (0, 0)).1 := ⟨_, rfl⟩
        obtain ⟨y, hy⟩ : ∃ y, y = (l[k]?.getD (0, 0)).2 := ⟨_, rfl⟩
        rw [← hx] at c1 c3
        rw [← hy] at c2 c4
        clear hx hy hc
        have p1 : (k : Int) < (l.length : Int) := by omega
        have p4 : ¬ (l.length : Int) ≤ (k : Int) := by omega
        have p5 : ¬ l.length ≤ k := by omega
        have HB := Lib.hid hb
        clear hb
        go_wp2_with fail
        refine wp_region_noPanic ?_
        refine wp_region_held_drew (S := (fun w' => w'.cell? ⟨B, k * 2, none⟩ = some (.int .i64 x) ∧ w'.cell? ⟨B, k * 2 + 1, none⟩ = some (.int .i64 y) ∧ w'.cell? ⟨ab, off + k * 2, none⟩ = some (.int .i64 x) ∧ w'.cell? ⟨ab, off + k * 2 + 1, none⟩ = some (.int .i64 y))) (by kernel_rfl) ⟨c1, c2, c3, c4⟩ (fun hR0 => ?_)
        change wpAnyH _ _ _ _ _ 35 #[false, false, false, false, false, false, false, false, false, false, false, false, false, false, false, false, false, false, false, false, false, false, false, false, false, false, false, false, false, false, false, false, false, false, false] _ _
        clear c1 c2 c3 c4
        refine wpAnyH_take (i := 0) (oi := { dst := some 23, op := Op.move (Operand.tmp 6), type := 3, pos := "lent.go:348", after := #[], guard := none }) (v := ?_) rfl (by kernel_rfl) (by kernel_rfl) (by kernel_rfl) (fun _ _ _ h => h) (Or.inl ⟨by rfl, ?_⟩) (by assumption) ?_
        rotate_left 1
        · (intro w hSw; (try dsimp only at hSw); go_simp <;> (with_reducible rfl))
        (first | ((fail_if_success (unfold Act.put)); (try simp only [List.setIfInBounds_toArray, List.set_cons_zero, List.set_cons_succ])) | (try simp only [Act.put, List.setIfInBounds_toArray, List.set_cons_zero, List.set_cons_succ]))
        refine wpAnyH_take (i := 1) (oi := { dst := some 24, op := Op.move (Operand.tmp 1), type := 22, pos := "lent.go:348", after := #[], guard := none }) (v := ?_) rfl (by kernel_rfl) (by kernel_rfl) (by kernel_rfl) (fun _ _ _ h => h) (Or.inl ⟨by rfl, ?_⟩) (by assumption) ?_
        rotate_left 1
        · (intro w hSw; (try dsimp only at hSw); go_simp <;> (with_reducible rfl))
        (first | ((fail_if_success (unfold Act.put)); (try simp only [List.setIfInBounds_toArray, List.set_cons_zero, List.set_cons_succ])) | (try simp only [Act.put, List.setIfInBounds_toArray, List.set_cons_zero, List.set_cons_succ]))
        refine wpAnyH_take (i := 2) (oi := { dst := some 25, op := Op.call { callee := Callee.builtin Builtin.len, args := #[Operand.tmp 24], argTypes := #[22] }, type := 3, pos := "lent.go:348", after := #[{ on := 1, ground := Ground.data }], guard := none }) (v := ?_) rfl (by kernel_rfl) (by kernel_rfl) (by kernel_rfl) (fun _ _ _ h => h) (Or.inl ⟨by rfl, ?_⟩) (by assumption) ?_
        rotate_left 1
        · (intro w hSw; (try dsimp only at hSw); go_simp <;> (with_reducible rfl))
        (first | ((fail_if_success (unfold Act.put)); (try simp only [List.setIfInBounds_toArray, List.set_cons_zero, List.set_cons_succ])) | (try simp only [Act.put, List.setIfInBounds_toArray, List.set_cons_zero, List.set_cons_succ]))
        refine wpAnyH_take (i := 3) (oi := { dst := some 26, op := Op.binOp BinOp.lss 3 (Operand.tmp 23) (Operand.tmp 25) 3, type := 4, pos := "lent.go:348", after := #[{ on := 0, ground := Ground.data }, { on := 2, ground := Ground.data }], guard := none }) (v := ?_) rfl (by kernel_rfl) (by kernel_rfl) (by kernel_rfl) (fun _ _ _ h => h) (Or.inl ⟨by rfl, ?_⟩) (by assumption) ?_
        rotate_left 1
        · (intro w hSw; (try dsimp only at hSw); go_simp <;> (with_reducible rfl))
        (first | ((fail_if_success (unfold Act.put)); (try simp only [List.setIfInBounds_toArray, List.set_cons_zero, List.set_cons_succ])) | (try simp only [Act.put, List.setIfInBounds_toArray, List.set_cons_zero, List.set_cons_succ]))
        refine wpAnyH_take (i := 4) (oi := { dst := some 27, op := Op.move (Operand.tmp 26), type := 4, pos := "lent.go:348", after := #[{ on := 3, ground := Ground.data }], guard := none }) (v := ?_) rfl (by kernel_rfl) (by kernel_rfl) (by kernel_rfl) (fun _ _ _ h => h) (Or.inl ⟨by rfl, ?_⟩) (by assumption) ?_
        rotate_left 1
        · (intro w hSw; (try dsimp only at hSw); go_simp <;> (with_reducible rfl))
        (first | ((fail_if_success (unfold Act.put)); (try simp only [List.setIfInBounds_toArray, List.set_cons_zero, List.set_cons_succ])) | (try simp only [Act.put, List.setIfInBounds_toArray, List.set_cons_zero, List.set_cons_succ]))
        refine wpAnyH_take (i := 5) (oi := { dst := some 28, op := Op.move (Operand.tmp 5), type := 22, pos := "lent.go:348", after := #[{ on := 4, ground := Ground.guard }], guard := some (4, true) }) (v := ?_) rfl (by kernel_rfl) (by kernel_rfl) (by kernel_rfl) (fun _ _ _ h => h) (Or.inl ⟨by rfl, ?_⟩) (by assumption) ?_
        rotate_left 1
        · (intro w hSw; (try dsimp only at hSw); go_simp <;> (with_reducible rfl))
        (first | ((fail_if_success (unfold Act.put)); (try simp only [List.setIfInBounds_toArray, List.set_cons_zero, List.set_cons_succ])) | (try simp only [Act.put, List.setIfInBounds_toArray, List.set_cons_zero, List.set_cons_succ]))
        refine wpAnyH_take (i := 6) (oi := { dst := some 29, op := Op.move (Operand.tmp 6), type := 3, pos := "lent.go:348", after := #[{ on := 4, ground := Ground.guard }], guard := some (4, true) }) (v := ?_) rfl (by kernel_rfl) (by kernel_rfl) (by kernel_rfl) (fun _ _ _ h => h) (Or.inl ⟨by rfl, ?_⟩) (by assumption) ?_
        rotate_left 1
        · (intro w hSw; (try dsimp only at hSw); go_simp <;> (with_reducible rfl))
        (first | ((fail_if_success (unfold Act.put)); (try simp only [List.setIfInBounds_toArray, List.set_cons_zero, List.set_cons_succ])) | (try simp only [Act.put, List.setIfInBounds_toArray, List.set_cons_zero, List.set_cons_succ]))
        refine wpAnyH_take (i := 7) (oi := { dst := some 30, op := Op.indexAddr 22 (Operand.tmp 28) (Operand.tmp 29), type := 0, pos := "lent.go:348", after := #[{ on := 5, ground := Ground.data }, { on := 6, ground := Ground.data }, { on := 4, ground := Ground.guard }], guard := some (4, true) }) (v := ?_) rfl (by kernel_rfl) (by kernel_rfl) (by kernel_rfl) (fun _ _ _ h => h) (Or.inl ⟨by rfl, ?_⟩) (by assumption) ?_
        rotate_left 1
        · (intro w hSw; (try dsimp only at hSw); go_simp <;> (with_reducible rfl))
        (first | ((fail_if_success (unfold Act.put)); (try simp only [List.setIfInBounds_toArray, List.set_cons_zero, List.set_cons_succ])) | (try simp only [Act.put, List.setIfInBounds_toArray, List.set_cons_zero, List.set_cons_succ]))
        refine wpAnyH_take (i := 8) (oi := { dst := some 31, op := Op.load 31 (Operand.tmp 30), type := 31, pos := "lent.go:348", after := #[{ on := 7, ground := Ground.data }, { on := 4, ground := Ground.guard }], guard := some (4, true) }) (v := ?_) rfl (by kernel_rfl) (by kernel_rfl) (by kernel_rfl) (fun _ _ _ h => h) (Or.inl ⟨by rfl, ?_⟩) (by assumption) ?_
        rotate_left 1
        · (intro w hSw; (try dsimp only at hSw); go_simp <;> (with_reducible rfl))
        (first | ((fail_if_success (unfold Act.put)); (try simp only [List.setIfInBounds_toArray, List.set_cons_zero, List.set_cons_succ])) | (try simp only [Act.put, List.setIfInBounds_toArray, List.set_cons_zero, List.set_cons_succ]))
        refine wpAnyH_take (i := 9) (oi := { dst := some 32, op := Op.move (Operand.tmp 1), type := 22, pos := "lent.go:348", after := #[{ on := 4, ground := Ground.guard }], guard := some (4, true) }) (v := ?_) rfl (by kernel_rfl) (by kernel_rfl) (by kernel_rfl) (fun _ _ _ h => h) (Or.inl ⟨by rfl, ?_⟩) (by assumption) ?_
        rotate_left 1
        · (intro w hSw; (try dsimp only at hSw); go_simp <;> (with_reducible rfl))
        (first | ((fail_if_success (unfold Act.put)); (try simp only [List.setIfInBounds_toArray, List.set_cons_zero, List.set_cons_succ])) | (try simp only [Act.put, List.setIfInBounds_toArray, List.set_cons_zero, List.set_cons_succ]))
        refine wpAnyH_take (i := 10) (oi := { dst := some 33, op := Op.move (Operand.tmp 6), type := 3, pos := "lent.go:348", after := #[{ on := 4, ground := Ground.guard }], guard := some (4, true) }) (v := ?_) rfl (by kernel_rfl) (by kernel_rfl) (by kernel_rfl) (fun _ _ _ h => h) (Or.inl ⟨by rfl, ?_⟩) (by assumption) ?_
        rotate_left 1
        · (intro w hSw; (try dsimp only at hSw); go_simp <;> (with_reducible rfl))
        (first | ((fail_if_success (unfold Act.put)); (try simp only [List.setIfInBounds_toArray, List.set_cons_zero, List.set_cons_succ])) | (try simp only [Act.put, List.setIfInBounds_toArray, List.set_cons_zero, List.set_cons_succ]))
        refine wpAnyH_take (i := 11) (oi := { dst := some 34, op := Op.indexAddr 22 (Operand.tmp 32) (Operand.tmp 33), type := 0, pos := "lent.go:348", after := #[{ on := 9, ground := Ground.data }, { on := 10, ground := Ground.data }, { on := 4, ground := Ground.guard }], guard := some (4, true) }) (v := ?_) rfl (by kernel_rfl) (by kernel_rfl) (by kernel_rfl) (fun _ _ _ h => h) (Or.inl ⟨by rfl, ?_⟩) (by assumption) ?_
        rotate_left 1
        · (intro w hSw; (try dsimp only at hSw); go_simp <;> (with_reducible rfl))
        (first | ((fail_if_success (unfold Act.put)); (try simp only [List.setIfInBounds_toArray, List.set_cons_zero, List.set_cons_succ])) | (try simp only [Act.put, List.setIfInBounds_toArray, List.set_cons_zero, List.set_cons_succ]))
        refine wpAnyH_take (i := 12) (oi := { dst := some 35, op := Op.load 31 (Operand.tmp 34), type := 31, pos := "lent.go:348", after := #[{ on := 11, ground := Ground.data }, { on := 4, ground := Ground.guard }], guard := some (4, true) }) (v := ?_) rfl (by kernel_rfl) (by kernel_rfl) (by kernel_rfl) (fun _ _ _ h => h) (Or.inl ⟨by rfl, ?_⟩) (by assumption) ?_
        rotate_left 1
        · (intro w hSw; (try dsimp only at hSw); go_simp <;> (with_reducible rfl))
        (first | ((fail_if_success (unfold Act.put)); (try simp only [List.setIfInBounds_toArray, List.set_cons_zero, List.set_cons_succ])) | (try simp only [Act.put, List.setIfInBounds_toArray, List.set_cons_zero, List.set_cons_succ]))
        refine wpAnyH_take (i := 13) (oi := { dst := some 36, op := Op.binOp BinOp.eql 31 (Operand.tmp 31) (Operand.tmp 35) 31, type := 4, pos := "lent.go:348", after := #[{ on := 8, ground := Ground.data }, { on := 12, ground := Ground.data }, { on := 4, ground := Ground.guard }], guard := some (4, true) }) (v := ?_) rfl (by kernel_rfl) (by kernel_rfl) (by kernel_rfl) (fun _ _ _ h => h) (Or.inl ⟨by rfl, ?_⟩) (by assumption) ?_
        rotate_left 1
        · (intro w hSw; (try dsimp only at hSw); go_simp <;> (with_reducible rfl))
        (first | ((fail_if_success (unfold Act.put)); (try simp only [List.setIfInBounds_toArray, List.set_cons_zero, List.set_cons_succ])) | (try simp only [Act.put, List.setIfInBounds_toArray, List.set_cons_zero, List.set_cons_succ]))
        refine wpAnyH_take (i := 14) (oi := { dst := some 37, op := Op.unOp UnOp.not 4 (Operand.tmp 36), type := 4, pos := "lent.go:348", after := #[{ on := 13, ground := Ground.data }, { on := 4, ground := Ground.guard }], guard := some (4, true) }) (v := ?_) rfl (by kernel_rfl) (by kernel_rfl) (by kernel_rfl) (fun _ _ _ h => h) (Or.inl ⟨by rfl, ?_⟩) (by assumption) ?_
        rotate_left 1
        · (intro w hSw; (try dsimp only at hSw); go_simp <;> (with_reducible rfl))
        (first | ((fail_if_success (unfold Act.put)); (try simp only [List.setIfInBounds_toArray, List.set_cons_zero, List.set_cons_succ])) | (try simp only [Act.put, List.setIfInBounds_toArray, List.set_cons_zero, List.set_cons_succ]))
        refine wpAnyH_take (i := 15) (oi := { dst := some 38, op := Op.pick (Operand.tmp 27) (Operand.tmp 37) (Operand.const (Value.bool false)), type := 4, pos := "lent.go:348", after := #[{ on := 4, ground := Ground.data }, { on := 14, ground := Ground.data }], guard := none }) (v := ?_) rfl (by kernel_rfl) (by kernel_rfl) (by kernel_rfl) (fun _ _ _ h => h) (Or.inl ⟨by rfl, ?_⟩) (by assumption) ?_
        rotate_left 1
        · (intro w hSw; (try dsimp only at hSw); go_simp <;> (with_reducible rfl))
        (first | ((fail_if_success (unfold Act.put)); (try simp only [List.setIfInBounds_toArray, List.set_cons_zero, List.set_cons_succ])) | (try simp only [Act.put, List.setIfInBounds_toArray, List.set_cons_zero, List.set_cons_succ]))
        refine wpAnyH_take (i := 16) (oi := { dst := some 39, op := Op.move (Operand.tmp 38), type := 4, pos := "lent.go:348", after := #[{ on := 15, ground := Ground.data }, { on := 4, ground := Ground.chain }], guard := none }) (v := ?_) rfl (by kernel_rfl) (by kernel_rfl) (by kernel_rfl) (fun _ _ _ h => h) (Or.inl ⟨by rfl, ?_⟩) (by assumption) ?_
        rotate_left 1
        · (intro w hSw; (try dsimp only at hSw); go_simp <;> (with_reducible rfl))
        (first | ((fail_if_success (unfold Act.put)); (try simp only [List.setIfInBounds_toArray, List.set_cons_zero, List.set_cons_succ])) | (try simp only [Act.put, List.setIfInBounds_toArray, List.set_cons_zero, List.set_cons_succ]))
        refine wpAnyH_take (i := 17) (oi := { dst := some 40, op := Op.move (Operand.tmp 6), type := 3, pos := "lent.go:348", after := #[{ on := 16, ground := Ground.guard }], guard := some (16, false) }) (v := ?_) rfl (by kernel_rfl) (by kernel_rfl) (by kernel_rfl) (fun _ _ _ h => h) (Or.inl ⟨by rfl, ?_⟩) (by assumption) ?_
        rotate_left 1
        · (intro w hSw; (try dsimp only at hSw); go_simp <;> (with_reducible rfl))
        (first | ((fail_if_success (unfold Act.put)); (try simp only [List.setIfInBounds_toArray, List.set_cons_zero, List.set_cons_succ])) | (try simp only [Act.put, List.setIfInBounds_toArray, List.set_cons_zero, List.set_cons_succ]))
        refine wpAnyH_take (i := 18) (oi := { dst := some 41, op := Op.move (Operand.tmp 1), type := 22, pos := "lent.go:348", after := #[{ on := 16, ground := Ground.guard }], guard := some (16, false) }) (v := ?_) rfl (by kernel_rfl) (by kernel_rfl) (by kernel_rfl) (fun _ _ _ h => h) (Or.inl ⟨by rfl, ?_⟩) (by assumption) ?_
        rotate_left 1
        · (intro w hSw; (try dsimp only at hSw); go_simp <;> (with_reducible rfl))
        (first | ((fail_if_success (unfold Act.put)); (try simp only [List.setIfInBounds_toArray, List.set_cons_zero, List.set_cons_succ])) | (try simp only [Act.put, List.setIfInBounds_toArray, List.set_cons_zero, List.set_cons_succ]))
        refine wpAnyH_take (i := 19) (oi := { dst := some 42, op := Op.call { callee := Callee.builtin Builtin.len, args := #[Operand.tmp 41], argTypes := #[22] }, type := 3, pos := "lent.go:348", after := #[{ on := 18, ground := Ground.data }, { on := 16, ground := Ground.guard }], guard := some (16, false) }) (v := ?_) rfl (by kernel_rfl) (by kernel_rfl) (by kernel_rfl) (fun _ _ _ h => h) (Or.inl ⟨by rfl, ?_⟩) (by assumption) ?_
        rotate_left 1
        · (intro w hSw; (try dsimp only at hSw); go_simp <;> (with_reducible rfl))
        (first | ((fail_if_success (unfold Act.put)); (try simp only [List.setIfInBounds_toArray, List.set_cons_zero, List.set_cons_succ])) | (try simp only [Act.put, List.setIfInBounds_toArray, List.set_cons_zero, List.set_cons_succ]))
        refine wpAnyH_take (i := 20) (oi := { dst := some 43, op := Op.binOp BinOp.geq 3 (Operand.tmp 40) (Operand.tmp 42) 3, type := 4, pos := "lent.go:348", after := #[{ on := 17, ground := Ground.data }, { on := 19, ground := Ground.data }, { on := 16, ground := Ground.guard }], guard := some (16, false) }) (v := ?_) rfl (by kernel_rfl) (by kernel_rfl) (by kernel_rfl) (fun _ _ _ h => h) (Or.inl ⟨by rfl, ?_⟩) (by assumption) ?_
        rotate_left 1
        · (intro w hSw; (try dsimp only at hSw); go_simp <;> (with_reducible rfl))
        (first | ((fail_if_success (unfold Act.put)); (try simp only [List.setIfInBounds_toArray, List.set_cons_zero, List.set_cons_succ])) | (try simp only [Act.put, List.setIfInBounds_toArray, List.set_cons_zero, List.set_cons_succ]))
        refine wpAnyH_take (i := 21) (oi := { dst := some 44, op := Op.move (Operand.tmp 43), type := 4, pos := "lent.go:348", after := #[{ on := 20, ground := Ground.data }, { on := 16, ground := Ground.chain }, { on := 16, ground := Ground.guard }], guard := some (16, false) }) (v := ?_) rfl (by kernel_rfl) (by kernel_rfl) (by kernel_rfl) (fun _ _ _ h => h) (Or.inl ⟨by rfl, ?_⟩) (by assumption) ?_
        rotate_left 1
        · (intro w hSw; (try dsimp only at hSw); go_simp <;> (with_reducible rfl))
        (first | ((fail_if_success (unfold Act.put)); (try simp only [List.setIfInBounds_toArray, List.set_cons_zero, List.set_cons_succ])) | (try simp only [Act.put, List.setIfInBounds_toArray, List.set_cons_zero, List.set_cons_succ]))
        refine wpAnyH_take (i := 22) (oi := { dst := some 45, op := Op.move (Operand.tmp 5), type := 22, pos := "lent.go:348", after := #[{ on := 21, ground := Ground.guard }], guard := some (21, true) }) (v := undef) rfl (by kernel_rfl) (by kernel_rfl) (by kernel_rfl) (fun _ _ _ h => h) (Or.inr ⟨by rfl, rfl⟩) (by assumption) ?_
        (first | ((fail_if_success (unfold Act.put)); (try simp only [List.setIfInBounds_toArray, List.set_cons_zero, List.set_cons_succ])) | (try simp only [Act.put, List.setIfInBounds_toArray, List.set_cons_zero, List.set_cons_succ]))
        refine wpAnyH_take (i := 23) (oi := { dst := some 46, op := Op.move (Operand.tmp 6), type := 3, pos := "lent.go:348", after := #[{ on := 21, ground := Ground.guard }], guard := some (21, true) }) (v := undef) rfl (by kernel_rfl) (by kernel_rfl) (by kernel_rfl) (fun _ _ _ h => h) (Or.inr ⟨by rfl, rfl⟩) (by assumption) ?_
        (first | ((fail_if_success (unfold Act.put)); (try simp only [List.setIfInBounds_toArray, List.set_cons_zero, List.set_cons_succ])) | (try simp only [Act.put, List.setIfInBounds_toArray, List.set_cons_zero, List.set_cons_succ]))
        refine wpAnyH_take (i := 24) (oi := { dst := some 47, op := Op.indexAddr 22 (Operand.tmp 45) (Operand.tmp 46), type := 0, pos := "lent.go:348", after := #[{ on := 22, ground := Ground.data }, { on := 23, ground := Ground.data }, { on := 21, ground := Ground.guard }], guard := some (21, true) }) (v := undef) rfl (by kernel_rfl) (by kernel_rfl) (by kernel_rfl) (fun _ _ _ h => h) (Or.inr ⟨by rfl, rfl⟩) (by assumption) ?_
        (first | ((fail_if_success (unfold Act.put)); (try simp only [List.setIfInBounds_toArray, List.set_cons_zero, List.set_cons_succ])) | (try simp only [Act.put, List.setIfInBounds_toArray, List.set_cons_zero, List.set_cons_succ]))
        refine wpAnyH_take (i := 25) (oi := { dst := some 48, op := Op.load 31 (Operand.tmp 47), type := 31, pos := "lent.go:348", after := #[{ on := 24, ground := Ground.data }, { on := 21, ground := Ground.guard }], guard := some (21, true) }) (v := undef) rfl (by kernel_rfl) (by kernel_rfl) (by kernel_rfl) (fun _ _ _ h => h) (Or.inr ⟨by rfl, rfl⟩) (by assumption) ?_
        (first | ((fail_if_success (unfold Act.put)); (try simp only [List.setIfInBounds_toArray, List.set_cons_zero, List.set_cons_succ])) | (try simp only [Act.put, List.setIfInBounds_toArray, List.set_cons_zero, List.set_cons_succ]))
        refine wpAnyH_take (i := 26) (oi := { dst := some 49, op := Op.move (Operand.tmp 6), type := 3, pos := "lent.go:348", after := #[{ on := 21, ground := Ground.guard }], guard := some (21, true) }) (v := undef) rfl (by kernel_rfl) (by kernel_rfl) (by kernel_rfl) (fun _ _ _ h => h) (Or.inr ⟨by rfl, rfl⟩) (by assumption) ?_
        (first | ((fail_if_success (unfold Act.put)); (try simp only [List.setIfInBounds_toArray, List.set_cons_zero, List.set_cons_succ])) | (try simp only [Act.put, List.setIfInBounds_toArray, List.set_cons_zero, List.set_cons_succ]))
        refine wpAnyH_take (i := 27) (oi := { dst := some 50, op := Op.move (Operand.tmp 1), type := 22, pos := "lent.go:348", after := #[{ on := 21, ground := Ground.guard }], guard := some (21, true) }) (v := undef) rfl (by kernel_rfl) (by kernel_rfl) (by kernel_rfl) (fun _ _ _ h => h) (Or.inr ⟨by rfl, rfl⟩) (by assumption) ?_
        (first | ((fail_if_success (unfold Act.put)); (try simp only [List.setIfInBounds_toArray, List.set_cons_zero, List.set_cons_succ])) | (try simp only [Act.put, List.setIfInBounds_toArray, List.set_cons_zero, List.set_cons_succ]))
        refine wpAnyH_take (i := 28) (oi := { dst := some 51, op := Op.call { callee := Callee.builtin Builtin.len, args := #[Operand.tmp 50], argTypes := #[22] }, type := 3, pos := "lent.go:348", after := #[{ on := 27, ground := Ground.data }, { on := 21, ground := Ground.guard }], guard := some (21, true) }) (v := undef) rfl (by kernel_rfl) (by kernel_rfl) (by kernel_rfl) (fun _ _ _ h => h) (Or.inr ⟨by rfl, rfl⟩) (by assumption) ?_
        (first | ((fail_if_success (unfold Act.put)); (try simp only [List.setIfInBounds_toArray, List.set_cons_zero, List.set_cons_succ])) | (try simp only [Act.put, List.setIfInBounds_toArray, List.set_cons_zero, List.set_cons_succ]))
        refine wpAnyH_take (i := 29) (oi := { dst := some 52, op := Op.binOp BinOp.sub 3 (Operand.tmp 49) (Operand.tmp 51) 3, type := 3, pos := "lent.go:348", after := #[{ on := 26, ground := Ground.data }, { on := 28, ground := Ground.data }, { on := 21, ground := Ground.guard }], guard := some (21, true) }) (v := undef) rfl (by kernel_rfl) (by kernel_rfl) (by kernel_rfl) (fun _ _ _ h => h) (Or.inr ⟨by rfl, rfl⟩) (by assumption) ?_
        (first | ((fail_if_success (unfold Act.put)); (try simp only [List.setIfInBounds_toArray, List.set_cons_zero, List.set_cons_succ])) | (try simp only [Act.put, List.setIfInBounds_toArray, List.set_cons_zero, List.set_cons_succ]))
        refine wpAnyH_take (i := 30) (oi := { dst := some 53, op := Op.call { callee := Callee.value (Operand.func 37), args := #[Operand.const (Value.int IntKind.i64 1), Operand.tmp 52], argTypes := #[3, 3] }, type := 31, pos := "lent.go:348", after := #[{ on := 29, ground := Ground.data }, { on := 21, ground := Ground.chain }, { on := 21, ground := Ground.guard }], guard := some (21, true) }) (v := undef) rfl (by kernel_rfl) (by kernel_rfl) (by kernel_rfl) (fun _ _ _ h => h) (Or.inr ⟨by rfl, rfl⟩) (by assumption) ?_
        (first | ((fail_if_success (unfold Act.put)); (try simp only [List.setIfInBounds_toArray, List.set_cons_zero, List.set_cons_succ])) | (try simp only [Act.put, List.setIfInBounds_toArray, List.set_cons_zero, List.set_cons_succ]))
        refine wpAnyH_take (i := 31) (oi := { dst := some 54, op := Op.binOp BinOp.eql 31 (Operand.tmp 48) (Operand.tmp 53) 31, type := 4, pos := "lent.go:348", after := #[{ on := 25, ground := Ground.data }, { on := 30, ground := Ground.data }, { on := 21, ground := Ground.guard }], guard := some (21, true) }) (v := undef) rfl (by kernel_rfl) (by kernel_rfl) (by kernel_rfl) (fun _ _ _ h => h) (Or.inr ⟨by rfl, rfl⟩) (by assumption) ?_
        (first | ((fail_if_success (unfold Act.put)); (try simp only [List.setIfInBounds_toArray, List.set_cons_zero, List.set_cons_succ])) | (try simp only [Act.put, List.setIfInBounds_toArray, List.set_cons_zero, List.set_cons_succ]))
        refine wpAnyH_take (i := 32) (oi := { dst := some 55, op := Op.unOp UnOp.not 4 (Operand.tmp 54), type := 4, pos := "lent.go:348", after := #[{ on := 31, ground := Ground.data }, { on := 21, ground := Ground.guard }], guard := some (21, true) }) (v := undef) rfl (by kernel_rfl) (by kernel_rfl) (by kernel_rfl) (fun _ _ _ h => h) (Or.inr ⟨by rfl, rfl⟩) (by assumption) ?_
        (first | ((fail_if_success (unfold Act.put)); (try simp only [List.setIfInBounds_toArray, List.set_cons_zero, List.set_cons_succ])) | (try simp only [Act.put, List.setIfInBounds_toArray, List.set_cons_zero, List.set_cons_succ]))
        refine wpAnyH_take (i := 33) (oi := { dst := some 56, op := Op.pick (Operand.tmp 44) (Operand.tmp 55) (Operand.const (Value.bool false)), type := 4, pos := "lent.go:348", after := #[{ on := 21, ground := Ground.data }, { on := 32, ground := Ground.data }, { on := 16, ground := Ground.guard }], guard := some (16, false) }) (v := ?_) rfl (by kernel_rfl) (by kernel_rfl) (by kernel_rfl) (fun _ _ _ h => h) (Or.inl ⟨by rfl, ?_⟩) (by assumption) ?_
        rotate_left 1
        · (intro w hSw; (try dsimp only at hSw); go_simp <;> (with_reducible rfl))
        (first | ((fail_if_success (unfold Act.put)); (try simp only [List.setIfInBounds_toArray, List.set_cons_zero, List.set_cons_succ])) | (try simp only [Act.put, List.setIfInBounds_toArray, List.set_cons_zero, List.set_cons_succ]))
        refine wpAnyH_take (i := 34) (oi := { dst := some 57, op := Op.pick (Operand.tmp 39) (Operand.const (Value.bool true)) (Operand.tmp 56), type := 4, pos := "lent.go:348", after := #[{ on := 16, ground := Ground.data }, { on := 33, ground := Ground.data }], guard := none }) (v := ?_) rfl (by kernel_rfl) (by kernel_rfl) (by kernel_rfl) (fun _ _ _ h => h) (Or.inl ⟨by rfl, ?_⟩) (by assumption) ?_
        rotate_left 1
        · (intro w hSw; (try dsimp only at hSw); go_simp <;> (with_reducible rfl))
        (first | ((fail_if_success (unfold Act.put)); (try simp only [List.setIfInBounds_toArray, List.set_cons_zero, List.set_cons_succ])) | (try simp only [Act.put, List.setIfInBounds_toArray, List.set_cons_zero, List.set_cons_succ]))
        refine wpAnyH_done (by kernel_rfl) ?_ _
        refine NoPanic.normal ?_
        clear hR0
        have HE := Lib.hid (HB.out.drew)
        go_wp2
        go_roundw
        case rel => exact ⟨k + 1, by omega, by go_num, HE.out⟩
        case measure => simp [intOf]; omega
      · obtain ⟨t, rfl⟩ : ∃ t, k = l.length + t := ⟨k - l.length, by omega⟩
        rw [List.getElem?_append_right (by omega), show l.length + t - l.length = t from by omega, mks_get (by omega)] at c1 c2
        have HT := HM.out (((l.length + t : Nat) : Int) - (l.length : Int)) (by omega) (by omega)
        rw [show mk 1 (((l.length + t : Nat) : Int) - (l.length : Int)) = mk 1 t from by congr 1; omega] at HT
        obtain ⟨x, hx⟩ : ∃ x, x = mk 1 t := ⟨_, rfl⟩
        simp only at c1 c2
        rw [← hx] at c1 HT
        replace HT := Lib.hid HT
        clear hx
        obtain ⟨n, hn⟩ : ∃ n, n = l.length + t := ⟨_, rfl⟩
        rw [← hn] at c1 c2 HT
        have hk' : n ≤ l.length + 12 := by omega
        have p0 : ¬ n < l.length := by omega
        have p1 : ¬ (n : Int) < (l.length : Int) := by omega
        have p2 : (l.length : Int) ≤ (n : Int) := by omega
        have k10 : (n : Int) < (l.length : Int) + 12 := by omega
        have q1 : IntKind.i64.wrap ((n : Int) - (l.length : Int)) = (n : Int) - (l.length : Int) := IntWalk.i64_in _ (by omega)
        rw [← hn] at hlt
        try rw [← hn]
        clear hk hkl k9 hn
        have HB := Lib.hid hb
        clear hb
        go_wp2_with fail
        refine wp_region_noPanic ?_
        refine wp_region_held_drew (S := (fun w' => w'.cell? ⟨B, n * 2, none⟩ = some (.int .i64 x) ∧ w'.cell? ⟨B, n * 2 + 1, none⟩ = some (.int .i64 0))) (by kernel_rfl) ⟨c1, c2⟩ (fun hR0 => ?_)
        change wpAnyH _ _ _ _ _ 35 #[false, false, false, false, false, false, false, false, false, false, false, false, false, false, false, false, false, false, false, false, false, false, false, false, false, false, false, false, false, false, false, false, false, false, false] _ _
        clear c1 c2
        refine wpAnyH_take (i := 0) (oi := { dst := some 23, op := Op.move (Operand.tmp 6), type := 3, pos := "lent.go:348", after := #[], guard := none }) (v := ?_) rfl (by kernel_rfl) (by kernel_rfl) (by kernel_rfl) (fun _ _ _ h => h) (Or.inl ⟨by rfl, ?_⟩) (by assumption) ?_
        rotate_left 1
        · (intro w hSw; (try dsimp only at hSw); go_simp <;> (with_reducible rfl))
        (first | ((fail_if_success (unfold Act.put)); (try simp only [List.setIfInBounds_toArray, List.set_cons_zero, List.set_cons_succ])) | (try simp only [Act.put, List.setIfInBounds_toArray, List.set_cons_zero, List.set_cons_succ]))
        refine wpAnyH_take (i := 1) (oi := { dst := some 24, op := Op.move (Operand.tmp 1), type := 22, pos := "lent.go:348", after := #[], guard := none }) (v := ?_) rfl (by kernel_rfl) (by kernel_rfl) (by kernel_rfl) (fun _ _ _ h => h) (Or.inl ⟨by rfl, ?_⟩) (by assumption) ?_
        rotate_left 1
        · (intro w hSw; (try dsimp only at hSw); go_simp <;> (with_reducible rfl))
        (first | ((fail_if_success (unfold Act.put)); (try simp only [List.setIfInBounds_toArray, List.set_cons_zero, List.set_cons_succ])) | (try simp only [Act.put, List.setIfInBounds_toArray, List.set_cons_zero, List.set_cons_succ]))
        refine wpAnyH_take (i := 2) (oi := { dst := some 25, op := Op.call { callee := Callee.builtin Builtin.len, args := #[Operand.tmp 24], argTypes := #[22] }, type := 3, pos := "lent.go:348", after := #[{ on := 1, ground := Ground.data }], guard := none }) (v := ?_) rfl (by kernel_rfl) (by kernel_rfl) (by kernel_rfl) (fun _ _ _ h => h) (Or.inl ⟨by rfl, ?_⟩) (by assumption) ?_
        rotate_left 1
        · (intro w hSw; (try dsimp only at hSw); go_simp <;> (with_reducible rfl))
        (first | ((fail_if_success (unfold Act.put)); (try simp only [List.setIfInBounds_toArray, List.set_cons_zero, List.set_cons_succ])) | (try simp only [Act.put, List.setIfInBounds_toArray, List.set_cons_zero, List.set_cons_succ]))
        refine wpAnyH_take (i := 3) (oi := { dst := some 26, op := Op.binOp BinOp.lss 3 (Operand.tmp 23) (Operand.tmp 25) 3, type := 4, pos := "lent.go:348", after := #[{ on := 0, ground := Ground.data }, { on := 2, ground := Ground.data }], guard := none }) (v := ?_) rfl (by kernel_rfl) (by kernel_rfl) (by kernel_rfl) (fun _ _ _ h => h) (Or.inl ⟨by rfl, ?_⟩) (by assumption) ?_
        rotate_left 1
        · (intro w hSw; (try dsimp only at hSw); go_simp <;> (with_reducible rfl))
        (first | ((fail_if_success (unfold Act.put)); (try simp only [List.setIfInBounds_toArray, List.set_cons_zero, List.set_cons_succ])) | (try simp only [Act.put, List.setIfInBounds_toArray, List.set_cons_zero, List.set_cons_succ]))
        refine wpAnyH_take (i := 4) (oi := { dst := some 27, op := Op.move (Operand.tmp 26), type := 4, pos := "lent.go:348", after := #[{ on := 3, ground := Ground.data }], guard := none }) (v := ?_) rfl (by kernel_rfl) (by kernel_rfl) (by kernel_rfl) (fun _ _ _ h => h) (Or.inl ⟨by rfl, ?_⟩) (by assumption) ?_
        rotate_left 1
        · (intro w hSw; (try dsimp only at hSw); go_simp <;> (with_reducible rfl))
        (first | ((fail_if_success (unfold Act.put)); (try simp only [List.setIfInBounds_toArray, List.set_cons_zero, List.set_cons_succ])) | (try simp only [Act.put, List.setIfInBounds_toArray, List.set_cons_zero, List.set_cons_succ]))
        refine wpAnyH_take (i := 5) (oi := { dst := some 28, op := Op.move (Operand.tmp 5), type := 22, pos := "lent.go:348", after := #[{ on := 4, ground := Ground.guard }], guard := some (4, true) }) (v := undef) rfl (by kernel_rfl) (by kernel_rfl) (by kernel_rfl) (fun _ _ _ h => h) (Or.inr ⟨by rfl, rfl⟩) (by assumption) ?_
        (first | ((fail_if_success (unfold Act.put)); (try simp only [List.setIfInBounds_toArray, List.set_cons_zero, List.set_cons_succ])) | (try simp only [Act.put, List.setIfInBounds_toArray, List.set_cons_zero, List.set_cons_succ]))
        refine wpAnyH_take (i := 6) (oi := { dst := some 29, op := Op.move (Operand.tmp 6), type := 3, pos := "lent.go:348", after := #[{ on := 4, ground := Ground.guard }], guard := some (4, true) }) (v := undef) rfl (by kernel_rfl) (by kernel_rfl) (by kernel_rfl) (fun _ _ _ h => h) (Or.inr ⟨by rfl, rfl⟩) (by assumption) ?_
        (first | ((fail_if_success (unfold Act.put)); (try simp only [List.setIfInBounds_toArray, List.set_cons_zero, List.set_cons_succ])) | (try simp only [Act.put, List.setIfInBounds_toArray, List.set_cons_zero, List.set_cons_succ]))
        refine wpAnyH_take (i := 7) (oi := { dst := some 30, op := Op.indexAddr 22 (Operand.tmp 28) (Operand.tmp 29), type := 0, pos := "lent.go:348", after := #[{ on := 5, ground := Ground.data }, { on := 6, ground := Ground.data }, { on := 4, ground := Ground.guard }], guard := some (4, true) }) (v := undef) rfl (by kernel_rfl) (by kernel_rfl) (by kernel_rfl) (fun _ _ _ h => h) (Or.inr ⟨by rfl, rfl⟩) (by assumption) ?_
        (first | ((fail_if_success (unfold Act.put)); (try simp only [List.setIfInBounds_toArray, List.set_cons_zero, List.set_cons_succ])) | (try simp only [Act.put, List.setIfInBounds_toArray, List.set_cons_zero, List.set_cons_succ]))
        refine wpAnyH_take (i := 8) (oi := { dst := some 31, op := Op.load 31 (Operand.tmp 30), type := 31, pos := "lent.go:348", after := #[{ on := 7, ground := Ground.data }, { on := 4, ground := Ground.guard }], guard := some (4, true) }) (v := undef) rfl (by kernel_rfl) (by kernel_rfl) (by kernel_rfl) (fun _ _ _ h => h) (Or.inr ⟨by rfl, rfl⟩) (by assumption) ?_
        (first | ((fail_if_success (unfold Act.put)); (try simp only [List.setIfInBounds_toArray, List.set_cons_zero, List.set_cons_succ])) | (try simp only [Act.put, List.setIfInBounds_toArray, List.set_cons_zero, List.set_cons_succ]))
        refine wpAnyH_take (i := 9) (oi := { dst := some 32, op := Op.move (Operand.tmp 1), type := 22, pos := "lent.go:348", after := #[{ on := 4, ground := Ground.guard }], guard := some (4, true) }) (v := undef) rfl (by kernel_rfl) (by kernel_rfl) (by kernel_rfl) (fun _ _ _ h => h) (Or.inr ⟨by rfl, rfl⟩) (by assumption) ?_
        (first | ((fail_if_success (unfold Act.put)); (try simp only [List.setIfInBounds_toArray, List.set_cons_zero, List.set_cons_succ])) | (try simp only [Act.put, List.setIfInBounds_toArray, List.set_cons_zero, List.set_cons_succ]))
        refine wpAnyH_take (i := 10) (oi := { dst := some 33, op := Op.move (Operand.tmp 6), type := 3, pos := "lent.go:348", after := #[{ on := 4, ground := Ground.guard }], guard := some (4, true) }) (v := undef) rfl (by kernel_rfl) (by kernel_rfl) (by kernel_rfl) (fun _ _ _ h => h) (Or.inr ⟨by rfl, rfl⟩) (by assumption) ?_
        (first | ((fail_if_success (unfold Act.put)); (try simp only [List.setIfInBounds_toArray, List.set_cons_zero, List.set_cons_succ])) | (try simp only [Act.put, List.setIfInBounds_toArray, List.set_cons_zero, List.set_cons_succ]))
        refine wpAnyH_take (i := 11) (oi := { dst := some 34, op := Op.indexAddr 22 (Operand.tmp 32) (Operand.tmp 33), type := 0, pos := "lent.go:348", after := #[{ on := 9, ground := Ground.data }, { on := 10, ground := Ground.data }, { on := 4, ground := Ground.guard }], guard := some (4, true) }) (v := undef) rfl (by kernel_rfl) (by kernel_rfl) (by kernel_rfl) (fun _ _ _ h => h) (Or.inr ⟨by rfl, rfl⟩) (by assumption) ?_
        (first | ((fail_if_success (unfold Act.put)); (try simp only [List.setIfInBounds_toArray, List.set_cons_zero, List.set_cons_succ])) | (try simp only [Act.put, List.setIfInBounds_toArray, List.set_cons_zero, List.set_cons_succ]))
        refine wpAnyH_take (i := 12) (oi := { dst := some 35, op := Op.load 31 (Operand.tmp 34), type := 31, pos := "lent.go:348", after := #[{ on := 11, ground := Ground.data }, { on := 4, ground := Ground.guard }], guard := some (4, true) }) (v := undef) rfl (by kernel_rfl) (by kernel_rfl) (by kernel_rfl) (fun _ _ _ h => h) (Or.inr ⟨by rfl, rfl⟩) (by assumption) ?_
        (first | ((fail_if_success (unfold Act.put)); (try simp only [List.setIfInBounds_toArray, List.set_cons_zero, List.set_cons_succ])) | (try simp only [Act.put, List.setIfInBounds_toArray, List.set_cons_zero, List.set_cons_succ]))
        refine wpAnyH_take (i := 13) (oi := { dst := some 36, op := Op.binOp BinOp.eql 31 (Operand.tmp 31) (Operand.tmp 35) 31, type := 4, pos := "lent.go:348", after := #[{ on := 8, ground := Ground.data }, { on := 12, ground := Ground.data }, { on := 4, ground := Ground.guard }], guard := some (4, true) }) (v := undef) rfl (by kernel_rfl) (by kernel_rfl) (by kernel_rfl) (fun _ _ _ h => h) (Or.inr ⟨by rfl, rfl⟩) (by assumption) ?_
        (first | ((fail_if_success (unfold Act.put)); (try simp only [List.setIfInBounds_toArray, List.set_cons_zero, List.set_cons_succ])) | (try simp only [Act.put, List.setIfInBounds_toArray, List.set_cons_zero, List.set_cons_succ]))
        refine wpAnyH_take (i := 14) (oi := { dst := some 37, op := Op.unOp UnOp.not 4 (Operand.tmp 36), type := 4, pos := "lent.go:348", after := #[{ on := 13, ground := Ground.data }, { on := 4, ground := Ground.guard }], guard := some (4, true) }) (v := undef) rfl (by kernel_rfl) (by kernel_rfl) (by kernel_rfl) (fun _ _ _ h => h) (Or.inr ⟨by rfl, rfl⟩) (by assumption) ?_
        (first | ((fail_if_success (unfold Act.put)); (try simp only [List.setIfInBounds_toArray, List.set_cons_zero, List.set_cons_succ])) | (try simp only [Act.put, List.setIfInBounds_toArray, List.set_cons_zero, List.set_cons_succ]))
        refine wpAnyH_take (i := 15) (oi := { dst := some 38, op := Op.pick (Operand.tmp 27) (Operand.tmp 37) (Operand.const (Value.bool false)), type := 4, pos := "lent.go:348", after := #[{ on := 4, ground := Ground.data }, { on := 14, ground := Ground.data }], guard := none }) (v := ?_) rfl (by kernel_rfl) (by kernel_rfl) (by kernel_rfl) (fun _ _ _ h => h) (Or.inl ⟨by rfl, ?_⟩) (by assumption) ?_
        rotate_left 1
        · (intro w hSw; (try dsimp only at hSw); go_simp <;> (with_reducible rfl))
        (first | ((fail_if_success (unfold Act.put)); (try simp only [List.setIfInBounds_toArray, List.set_cons_zero, List.set_cons_succ])) | (try simp only [Act.put, List.setIfInBounds_toArray, List.set_cons_zero, List.set_cons_succ]))
        refine wpAnyH_take (i := 16) (oi := { dst := some 39, op := Op.move (Operand.tmp 38), type := 4, pos := "lent.go:348", after := #[{ on := 15, ground := Ground.data }, { on := 4, ground := Ground.chain }], guard := none }) (v := ?_) rfl (by kernel_rfl) (by kernel_rfl) (by kernel_rfl) (fun _ _ _ h => h) (Or.inl ⟨by rfl, ?_⟩) (by assumption) ?_
        rotate_left 1
        · (intro w hSw; (try dsimp only at hSw); go_simp <;> (with_reducible rfl))
        (first | ((fail_if_success (unfold Act.put)); (try simp only [List.setIfInBounds_toArray, List.set_cons_zero, List.set_cons_succ])) | (try simp only [Act.put, List.setIfInBounds_toArray, List.set_cons_zero, List.set_cons_succ]))
        refine wpAnyH_take (i := 17) (oi := { dst := some 40, op := Op.move (Operand.tmp 6), type := 3, pos := "lent.go:348", after := #[{ on := 16, ground := Ground.guard }], guard := some (16, false) }) (v := ?_) rfl (by kernel_rfl) (by kernel_rfl) (by kernel_rfl) (fun _ _ _ h => h) (Or.inl ⟨by rfl, ?_⟩) (by assumption) ?_
        rotate_left 1
        · (intro w hSw; (try dsimp only at hSw); go_simp <;> (with_reducible rfl))
        (first | ((fail_if_success (unfold Act.put)); (try simp only [List.setIfInBounds_toArray, List.set_cons_zero, List.set_cons_succ])) | (try simp only [Act.put, List.setIfInBounds_toArray, List.set_cons_zero, List.set_cons_succ]))
        refine wpAnyH_take (i := 18) (oi := { dst := some 41, op := Op.move (Operand.tmp 1), type := 22, pos := "lent.go:348", after := #[{ on := 16, ground := Ground.guard }], guard := some (16, false) }) (v := ?_) rfl (by kernel_rfl) (by kernel_rfl) (by kernel_rfl) (fun _ _ _ h => h) (Or.inl ⟨by rfl, ?_⟩) (by assumption) ?_
        rotate_left 1
        · (intro w hSw; (try dsimp only at hSw); go_simp <;> (with_reducible rfl))
        (first | ((fail_if_success (unfold Act.put)); (try simp only [List.setIfInBounds_toArray, List.set_cons_zero, List.set_cons_succ])) | (try simp only [Act.put, List.setIfInBounds_toArray, List.set_cons_zero, List.set_cons_succ]))
        refine wpAnyH_take (i := 19) (oi := { dst := some 42, op := Op.call { callee := Callee.builtin Builtin.len, args := #[Operand.tmp 41], argTypes := #[22] }, type := 3, pos := "lent.go:348", after := #[{ on := 18, ground := Ground.data }, { on := 16, ground := Ground.guard }], guard := some (16, false) }) (v := ?_) rfl (by kernel_rfl) (by kernel_rfl) (by kernel_rfl) (fun _ _ _ h => h) (Or.inl ⟨by rfl, ?_⟩) (by assumption) ?_
        rotate_left 1
        · (intro w hSw; (try dsimp only at hSw); go_simp <;> (with_reducible rfl))
        (first | ((fail_if_success (unfold Act.put)); (try simp only [List.setIfInBounds_toArray, List.set_cons_zero, List.set_cons_succ])) | (try simp only [Act.put, List.setIfInBounds_toArray, List.set_cons_zero, List.set_cons_succ]))
        refine wpAnyH_take (i := 20) (oi := { dst := some 43, op := Op.binOp BinOp.geq 3 (Operand.tmp 40) (Operand.tmp 42) 3, type := 4, pos := "lent.go:348", after := #[{ on := 17, ground := Ground.data }, { on := 19, ground := Ground.data }, { on := 16, ground := Ground.guard }], guard := some (16, false) }) (v := ?_) rfl (by kernel_rfl) (by kernel_rfl) (by kernel_rfl) (fun _ _ _ h => h) (Or.inl ⟨by rfl, ?_⟩) (by assumption) ?_
        rotate_left 1
        · (intro w hSw; (try dsimp only at hSw); go_simp <;> (with_reducible rfl))
        (first | ((fail_if_success (unfold Act.put)); (try simp only [List.setIfInBounds_toArray, List.set_cons_zero, List.set_cons_succ])) | (try simp only [Act.put, List.setIfInBounds_toArray, List.set_cons_zero, List.set_cons_succ]))
        refine wpAnyH_take (i := 21) (oi := { dst := some 44, op := Op.move (Operand.tmp 43), type := 4, pos := "lent.go:348", after := #[{ on := 20, ground := Ground.data }, { on := 16, ground := Ground.chain }, { on := 16, ground := Ground.guard }], guard := some (16, false) }) (v := ?_) rfl (by kernel_rfl) (by kernel_rfl) (by kernel_rfl) (fun _ _ _ h => h) (Or.inl ⟨by rfl, ?_⟩) (by assumption) ?_
        rotate_left 1
        · (intro w hSw; (try dsimp only at hSw); go_simp <;> (with_reducible rfl))
        (first | ((fail_if_success (unfold Act.put)); (try simp only [List.setIfInBounds_toArray, List.set_cons_zero, List.set_cons_succ])) | (try simp only [Act.put, List.setIfInBounds_toArray, List.set_cons_zero, List.set_cons_succ]))
        refine wpAnyH_take (i := 22) (oi := { dst := some 45, op := Op.move (Operand.tmp 5), type := 22, pos := "lent.go:348", after := #[{ on := 21, ground := Ground.guard }], guard := some (21, true) }) (v := ?_) rfl (by kernel_rfl) (by kernel_rfl) (by kernel_rfl) (fun _ _ _ h => h) (Or.inl ⟨by rfl, ?_⟩) (by assumption) ?_
        rotate_left 1
        · (intro w hSw; (try dsimp only at hSw); go_simp <;> (with_reducible rfl))
        (first | ((fail_if_success (unfold Act.put)); (try simp only [List.setIfInBounds_toArray, List.set_cons_zero, List.set_cons_succ])) | (try simp only [Act.put, List.setIfInBounds_toArray, List.set_cons_zero, List.set_cons_succ]))
        refine wpAnyH_take (i := 23) (oi := { dst := some 46, op := Op.move (Operand.tmp 6), type := 3, pos := "lent.go:348", after := #[{ on := 21, ground := Ground.guard }], guard := some (21, true) }) (v := ?_) rfl (by kernel_rfl) (by kernel_rfl) (by kernel_rfl) (fun _ _ _ h => h) (Or.inl ⟨by rfl, ?_⟩) (by assumption) ?_
        rotate_left 1
        · (intro w hSw; (try dsimp only at hSw); go_simp <;> (with_reducible rfl))
        (first | ((fail_if_success (unfold Act.put)); (try simp only [List.setIfInBounds_toArray, List.set_cons_zero, List.set_cons_succ])) | (try simp only [Act.put, List.setIfInBounds_toArray, List.set_cons_zero, List.set_cons_succ]))
        refine wpAnyH_take (i := 24) (oi := { dst := some 47, op := Op.indexAddr 22 (Operand.tmp 45) (Operand.tmp 46), type := 0, pos := "lent.go:348", after := #[{ on := 22, ground := Ground.data }, { on := 23, ground := Ground.data }, { on := 21, ground := Ground.guard }], guard := some (21, true) }) (v := ?_) rfl (by kernel_rfl) (by kernel_rfl) (by kernel_rfl) (fun _ _ _ h => h) (Or.inl ⟨by rfl, ?_⟩) (by assumption) ?_
        rotate_left 1
        · (intro w hSw; (try dsimp only at hSw); go_simp <;> (with_reducible rfl))
        (first | ((fail_if_success (unfold Act.put)); (try simp only [List.setIfInBounds_toArray, List.set_cons_zero, List.set_cons_succ])) | (try simp only [Act.put, List.setIfInBounds_toArray, List.set_cons_zero, List.set_cons_succ]))
        refine wpAnyH_take (i := 25) (oi := { dst := some 48, op := Op.load 31 (Operand.tmp 47), type := 31, pos := "lent.go:348", after := #[{ on := 24, ground := Ground.data }, { on := 21, ground := Ground.guard }], guard := some (21, true) }) (v := ?_) rfl (by kernel_rfl) (by kernel_rfl) (by kernel_rfl) (fun _ _ _ h => h) (Or.inl ⟨by rfl, ?_⟩) (by assumption) ?_
        rotate_left 1
        · (intro w hSw; (try dsimp only at hSw); go_simp <;> (with_reducible rfl))
        (first | ((fail_if_success (unfold Act.put)); (try simp only [List.setIfInBounds_toArray, List.set_cons_zero, List.set_cons_succ])) | (try simp only [Act.put, List.setIfInBounds_toArray, List.set_cons_zero, List.set_cons_succ]))
        refine wpAnyH_take (i := 26) (oi := { dst := some 49, op := Op.move (Operand.tmp 6), type := 3, pos := "lent.go:348", after := #[{ on := 21, ground := Ground.guard }], guard := some (21, true) }) (v := ?_) rfl (by kernel_rfl) (by kernel_rfl) (by kernel_rfl) (fun _ _ _ h => h) (Or.inl ⟨by rfl, ?_⟩) (by assumption) ?_
        rotate_left 1
        · (intro w hSw; (try dsimp only at hSw); go_simp <;> (with_reducible rfl))
        (first | ((fail_if_success (unfold Act.put)); (try simp only [List.setIfInBounds_toArray, List.set_cons_zero, List.set_cons_succ])) | (try simp only [Act.put, List.setIfInBounds_toArray, List.set_cons_zero, List.set_cons_succ]))
        refine wpAnyH_take (i := 27) (oi := { dst := some 50, op := Op.move (Operand.tmp 1), type := 22, pos := "lent.go:348", after := #[{ on := 21, ground := Ground.guard }], guard := some (21, true) }) (v := ?_) rfl (by kernel_rfl) (by kernel_rfl) (by kernel_rfl) (fun _ _ _ h => h) (Or.inl ⟨by rfl, ?_⟩) (by assumption) ?_
        rotate_left 1
        · (intro w hSw; (try dsimp only at hSw); go_simp <;> (with_reducible rfl))
        (first | ((fail_if_success (unfold Act.put)); (try simp only [List.setIfInBounds_toArray, List.set_cons_zero, List.set_cons_succ])) | (try simp only [Act.put, List.setIfInBounds_toArray, List.set_cons_zero, List.set_cons_succ]))
        refine wpAnyH_take (i := 28) (oi := { dst := some 51, op := Op.call { callee := Callee.builtin Builtin.len, args := #[Operand.tmp 50], argTypes := #[22] }, type := 3, pos := "lent.go:348", after := #[{ on := 27, ground := Ground.data }, { on := 21, ground := Ground.guard }], guard := some (21, true) }) (v := ?_) rfl (by kernel_rfl) (by kernel_rfl) (by kernel_rfl) (fun _ _ _ h => h) (Or.inl ⟨by rfl, ?_⟩) (by assumption) ?_
        rotate_left 1
        · (intro w hSw; (try dsimp only at hSw); go_simp <;> (with_reducible rfl))
        (first | ((fail_if_success (unfold Act.put)); (try simp only [List.setIfInBounds_toArray, List.set_cons_zero, List.set_cons_succ])) | (try simp only [Act.put, List.setIfInBounds_toArray, List.set_cons_zero, List.set_cons_succ]))
        refine wpAnyH_take (i := 29) (oi := { dst := some 52, op := Op.binOp BinOp.sub 3 (Operand.tmp 49) (Operand.tmp 51) 3, type := 3, pos := "lent.go:348", after := #[{ on := 26, ground := Ground.data }, { on := 28, ground := Ground.data }, { on := 21, ground := Ground.guard }], guard := some (21, true) }) (v := ?_) rfl (by kernel_rfl) (by kernel_rfl) (by kernel_rfl) (fun _ _ _ h => h) (Or.inl ⟨by rfl, ?_⟩) (by assumption) ?_
        rotate_left 1
        · (intro w hSw; (try dsimp only at hSw); go_simp <;> (with_reducible rfl))
        (first | ((fail_if_success (unfold Act.put)); (try simp only [List.setIfInBounds_toArray, List.set_cons_zero, List.set_cons_succ])) | (try simp only [Act.put, List.setIfInBounds_toArray, List.set_cons_zero, List.set_cons_succ]))
        refine wpAnyH_ready (rs := [30]) (by kernel_rfl) (by simp) ?_
        refine AllReadyH.cons (o := { dst := some 53, op := Op.call { callee := Callee.value (Operand.func 37), args := #[Operand.const (Value.int IntKind.i64 1), Operand.tmp 52], argTypes := #[3, 3] }, type := 31, pos := "lent.go:348", after := #[{ on := 29, ground := Ground.data }, { on := 21, ground := Ground.chain }, { on := 21, ground := Ground.guard }], guard := some (21, true) }) rfl (fun K hK => ?_) AllReadyH.nil
        go_simp
        go_at_call 37; refine (HT.out _).mono ?_; rintro e w1 ⟨rfl, hb2⟩
        (try go_wp2_with fail)
        refine hK.out _ _ (⟨(hb2.cell (p := ⟨B, n * 2, none⟩) hBr).trans hR0.1, (hb2.cell (p := ⟨B, n * 2 + 1, none⟩) hBr).trans hR0.2⟩) (fun hR1 => ?_)
        clear hK K hR0
        (first | ((fail_if_success (unfold Act.put)); (try simp only [List.setIfInBounds_toArray, List.set_cons_zero, List.set_cons_succ])) | (try simp only [Act.put, List.setIfInBounds_toArray, List.set_cons_zero, List.set_cons_succ]))
        refine wpAnyH_take (i := 31) (oi := { dst := some 54, op := Op.binOp BinOp.eql 31 (Operand.tmp 48) (Operand.tmp 53) 31, type := 4, pos := "lent.go:348", after := #[{ on := 25, ground := Ground.data }, { on := 30, ground := Ground.data }, { on := 21, ground := Ground.guard }], guard := some (21, true) }) (v := ?_) rfl (by kernel_rfl) (by kernel_rfl) (by kernel_rfl) (fun _ _ _ h => h) (Or.inl ⟨by rfl, ?_⟩) (by assumption) ?_
        rotate_left 1
        · (intro w hSw; (try dsimp only at hSw); go_simp <;> (with_reducible rfl))
        (first | ((fail_if_success (unfold Act.put)); (try simp only [List.setIfInBounds_toArray, List.set_cons_zero, List.set_cons_succ])) | (try simp only [Act.put, List.setIfInBounds_toArray, List.set_cons_zero, List.set_cons_succ]))
        refine wpAnyH_take (i := 32) (oi := { dst := some 55, op := Op.unOp UnOp.not 4 (Operand.tmp 54), type := 4, pos := "lent.go:348", after := #[{ on := 31, ground := Ground.data }, { on := 21, ground := Ground.guard }], guard := some (21, true) }) (v := ?_) rfl (by kernel_rfl) (by kernel_rfl) (by kernel_rfl) (fun _ _ _ h => h) (Or.inl ⟨by rfl, ?_⟩) (by assumption) ?_
        rotate_left 1
        · (intro w hSw; (try dsimp only at hSw); go_simp <;> (with_reducible rfl))
        (first | ((fail_if_success (unfold Act.put)); (try simp only [List.setIfInBounds_toArray, List.set_cons_zero, List.set_cons_succ])) | (try simp only [Act.put, List.setIfInBounds_toArray, List.set_cons_zero, List.set_cons_succ]))
        refine wpAnyH_take (i := 33) (oi := { dst := some 56, op := Op.pick (Operand.tmp 44) (Operand.tmp 55) (Operand.const (Value.bool false)), type := 4, pos := "lent.go:348", after := #[{ on := 21, ground := Ground.data }, { on := 32, ground := Ground.data }, { on := 16, ground := Ground.guard }], guard := some (16, false) }) (v := ?_) rfl (by kernel_rfl) (by kernel_rfl) (by kernel_rfl) (fun _ _ _ h => h) (Or.inl ⟨by rfl, ?_⟩) (by assumption) ?_
        rotate_left 1
        · (intro w hSw; (try dsimp only at hSw); go_simp <;> (with_reducible rfl))
        (first | ((fail_if_success (unfold Act.put)); (try simp only [List.setIfInBounds_toArray, List.set_cons_zero, List.set_cons_succ])) | (try simp only [Act.put, List.setIfInBounds_toArray, List.set_cons_zero, List.set_cons_succ]))
        refine wpAnyH_take (i := 34) (oi := { dst := some 57, op := Op.pick (Operand.tmp 39) (Operand.const (Value.bool true)) (Operand.tmp 56), type := 4, pos := "lent.go:348", after := #[{ on := 16, ground := Ground.data }, { on := 33, ground := Ground.data }], guard := none }) (v := ?_) rfl (by kernel_rfl) (by kernel_rfl) (by kernel_rfl) (fun _ _ _ h => h) (Or.inl ⟨by rfl, ?_⟩) (by assumption) ?_
        rotate_left 1
        · (intro w hSw; (try dsimp only at hSw); go_simp <;> (with_reducible rfl))
        (first | ((fail_if_success (unfold Act.put)); (try simp only [List.setIfInBounds_toArray, List.set_cons_zero, List.set_cons_succ])) | (try simp only [Act.put, List.setIfInBounds_toArray, List.set_cons_zero, List.set_cons_succ]))
        refine wpAnyH_done (by kernel_rfl) ?_ _
        refine NoPanic.normal ?_
        clear hR1
        have HE := Lib.hid (HB.out.trans (((Below.refl wr.heap.size wr).drew.trans hb2).mono HB.out.size))
        clear hb2
        go_wp2
        go_roundw
        case rel => exact ⟨n + 1, by omega, by go_num, HE.out⟩
        case measure => simp [intOf]; omega
    · obtain rfl : k = l.length + 12 := by omega
      have HB := Lib.hid hb
      clear hb
      go_wp2
      go_ret
      exact ⟨rfl, HB.out⟩

end Go.Proofs.YtanlaejdibikiaaGreat
