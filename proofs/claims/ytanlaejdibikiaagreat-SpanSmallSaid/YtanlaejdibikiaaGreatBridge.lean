/-
'Bridge': short gaps are filled.
-/
import Derived.Laws.OwnMore
import Derived.Test.YtanlaejdibikiaaGreatWithin
namespace Go.Proofs.YtanlaejdibikiaaGreat
open Go.RowKit Go.Shelf Sp

theorem take_pos {l : L} {k : Nat} (h0 : 0 < k) (hk : k ≤ l.length) : l.take k = l.take (k - 1) ++ [l[k - 1]'(by omega)] := by
  obtain ⟨j, rfl⟩ : ∃ j, k = j + 1 := ⟨k - 1, by omega⟩
  rw [List.take_succ_eq_append_getElem (by omega)]
  rfl
theorem prevTo_eq {l : L} {k : Nat} (h0 : 0 < k) (hk : k ≤ l.length) : prevTo l k = (l[k - 1]'(by omega)).2 := by
  unfold prevTo; rw [getD_eq (by omega)]

theorem bridge_pos {days : Int} {l : L} (hs : IsSet l) {k : Nat} (h0 : 0 < k) (hk : k ≤ l.length) : ∃ (m : L) (f : Int), bridge days (l.take k) = m ++ [(f, prevTo l k)] ∧ m.length ≤ 32768 := by
  have ht := take_pos h0 hk
  have hset : IsSet (l.take (k - 1) ++ [l[k - 1]'(by omega)]) := by rw [← ht]; exact set_take hs k
  obtain ⟨m, f, e, -, hm, -⟩ := bridge_spec (days := days) _ _ _ rfl hset
  refine ⟨m, f, by rw [ht, e, prevTo_eq h0 hk], ?_⟩
  have := hm.length
  simp at this
  omega
theorem bridge_next (days : Int) {l : L} {k : Nat} (hk : k < l.length) : bridge days (l.take (k + 1)) = stepB days (bridge days (l.take k)) ((l[k]?.getD (0, 0)).1, (l[k]?.getD (0, 0)).2) := by
  rw [List.take_succ_eq_append_getElem hk, bridge_snoc, getD_eq hk]
theorem stepB_nil (days : Int) (s : Int × Int) : stepB days [] s = [s] := rfl
theorem stepB_snoc (days : Int) (m : L) (f z x y : Int) : stepB days (m ++ [(f, z)]) (x, y) = if x - z ≤ days then m ++ [(f, y)] else m ++ [(f, z)] ++ [(x, y)] := by
  simp [stepB]

theorem cellsS_set (m : L) (f z y : Int) : (cellsS (m ++ [(f, z)])).set (m.length * 2 + 1) (.int .i64 y) = cellsS (m ++ [(f, y)]) := by
  rw [cellsS_append, cellsS_append, List.set_append_right _ _ (by rw [cellsS_length]; omega), cellsS_length, show m.length * 2 + 1 - m.length * 2 = 1 from by omega]
  rfl

set_option maxRecDepth 100000 in
set_option maxHeartbeats 4000000 in
theorem Bridge_ok (v : Value) (l : L) (days : Int) (h0 : 0 ≤ days) (h9 : days ≤ 9223372036854775807) (hl : IsSet l) (w : World) (h : Spn w v l) :
    Calls Tryz.prog 24 #[v, .int .i64 days] w (Gives (bridge days l) w) := by
  have h' := h
  obtain ⟨a, cap, rfl, hlc, ⟨hcm, hcl, hcn⟩, hcs⟩ := h'
  clear hcn hcs
  have hv := fun W (hW : Below w.heap.size w W) => Valid_any (.slice a l.length cap) l W (h.below hW (Nat.le_refl _))
  rw [(vldB_iff l).2 hl] at hv
  have HV := Lib.hid hv
  have HS := Lib.hid h
  have HL := Lib.hid hl
  clear h hl hv
  have hnn : ¬ days < 0 := by omega
  obtain ⟨i0, hi, hz0, hz1, hz2⟩ := info_parts Tryz.infoS
  go_enter Tryz.func24, Tryz.ntmps24
  go_wp2_with (go_at_call 29; ((with_reducible refine (HV.out _ (Below.refl _ _)).mono ?_); rintro e w1 ⟨rfl, hb1⟩))
  go_loopw [6, 18] (fun v i wr => ∃ k : Nat, k ≤ l.length ∧ i = .int .i64 k ∧ Hid (wr.ownsRow w.heap.size 31 2 v (bridge days (l.take k)).length (cellsS (bridge days (l.take k)))) ∧ Below w.heap.size w wr) (fun _ i _ => l.length - (intOf i).toNat)
  case atStart => exact ⟨0, Nat.zero_le _, rfl, Lib.hid (World.ownsRow_nil _ _ _ _), hb1⟩
  case round =>
    obtain ⟨k, hk, rfl, HO, hb⟩ := hrel
    by_cases hlt : k < l.length
    · have hne : l ≠ [] := by intro e; rw [e] at hlt; simp at hlt
      obtain ⟨b, off, rfl, hbw, hc⟩ := HS.out.block hne
      have c1 := (hb.cell (p := ⟨b, off + k * 2, none⟩) hbw).trans (hc k hlt).1
      have c2 := (hb.cell (p := ⟨b, off + k * 2 + 1, none⟩) hbw).trans (hc k hlt).2
      have hp : 0 < k → wr.cell? ⟨b, off + (k - 1) * 2 + 1, none⟩ = some (.int .i64 (prevTo l k)) := fun h0 => (hb.cell (p := ⟨b, off + (k - 1) * 2 + 1, none⟩) hbw).trans (hc (k - 1) (by omega)).2
      have hpb : 0 < k → 0 ≤ prevTo l k ∧ prevTo l k ≤ 65536 := fun h0 => by have := HL.out.get (i := k - 1) (by omega); rw [prevTo_eq h0 (by omega)]; omega
      have hg := HL.out.get hlt
      rw [← getD_eq hlt] at hg
      have HN := Lib.hid (bridge_next days hlt)
      have HBP := Lib.hid (fun h0 => bridge_pos (days := days) HL.out (k := k) h0 hk)
      obtain ⟨x, hx⟩ : ∃ x, x = (l[k]?.getD (0, 0)).1 := ⟨_, rfl⟩
      obtain ⟨y, hy⟩ : ∃ y, y = (l[k]?.getD (0, 0)).2 := ⟨_, rfl⟩
      obtain ⟨z, hz⟩ : ∃ z, z = prevTo l k := ⟨_, rfl⟩
      rw [← hz] at hp HBP hpb
      rw [← hx] at c1 HN hg
      rw [← hy] at c2 HN hg
      obtain ⟨g1, g2, g3⟩ := hg
      clear hx hy hc hz
      have HB := Lib.hid (hb.alloc hb.size (.cells #[.int .i64 x, .int .i64 y] 31))
      have HX := Lib.hid (Bx.new 31 wr (.int .i64 x) (.int .i64 y))
      have HOA := Lib.hid (HO.out.alloc (.cells #[.int .i64 x, .int .i64 y] 31))
      have hbr : b < wr.heap.size := Nat.lt_of_lt_of_le hbw hb.size
      clear HO
      by_cases k0 : 0 < k
      · obtain ⟨m, f, hm, hml⟩ := HBP.out k0
        have hpz := Lib.hid (hp k0)
        obtain ⟨z1, z2⟩ := hpb k0
        rw [hm] at HOA HN
        rw [stepB_snoc] at HN
        clear hm HBP hp hpb
        have q1 : IntKind.i64.wrap ((k : Int) - 1) = (k : Int) - 1 := IntWalk.i64_in _ (by omega)
        have q2 : (1 : Int) ≤ (k : Int) := by omega
        have q3 : (k : Int) - 1 < (l.length : Int) := by omega
        have q4 : ((k : Int) - 1).toNat = k - 1 := by omega
        have q5 : k - 1 < l.length := by omega
        have q6 : IntKind.i64.wrap (x - z) = x - z := IntWalk.i64_in _ (by omega)
        by_cases hgap : x - z ≤ days
        · rw [if_pos hgap] at HN
          go_wp2_with fail
          obtain ⟨W, hW⟩ : ∃ W, wr.alloc (.cells #[.int .i64 x, .int .i64 y] 31) = W := ⟨_, rfl⟩
          have hS1 : W.cell? ⟨b, off + (k - 1) * 2 + 1, none⟩ = some (.int .i64 z) := by rw [← hW]; exact (World.cell?_alloc_lt _ _ _ hbr).trans hpz.out
          rw [hW] at HX HB HOA ⊢
          clear hW
          have hS0 := HX.out.cells
          refine wp_region_noPanic ?_
          refine wp_region_held_drew (S := (fun w' => w'.cell? ⟨wr.heap.size, 0, none⟩ = some (.int .i64 x) ∧ w'.cell? ⟨wr.heap.size, 1, none⟩ = some (.int .i64 y) ∧ w'.cell? ⟨b, off + (k - 1) * 2 + 1, none⟩ = some (.int .i64 z))) (by kernel_rfl) ⟨hS0.1, hS0.2, hS1⟩ (fun hR0 => ?_)
          change wpAnyH _ _ _ _ _ 15 #[false, false, false, false, false, false, false, false, false, false, false, false, false, false, false] _ _
          clear hS1 hpz
          refine wpAnyH_take (i := 0) (oi := { dst := some 23, op := Op.move (Operand.tmp 7), type := 3, pos := "span.go:48", after := #[], guard := none }) (v := ?_) rfl (by kernel_rfl) (by kernel_rfl) (by kernel_rfl) (fun _ _ _ h => h) (Or.inl ⟨by rfl, ?_⟩) (by assumption) ?_
          rotate_left 1
          · (intro w hSw; (try dsimp only at hSw); go_simp <;> (with_reducible rfl))
          (first | ((fail_if_success (unfold Act.put)); (try simp only [List.setIfInBounds_toArray, List.set_cons_zero, List.set_cons_succ])) | (try simp only [Act.put, List.setIfInBounds_toArray, List.set_cons_zero, List.set_cons_succ]))
          refine wpAnyH_take (i := 1) (oi := { dst := some 24, op := Op.binOp BinOp.gtr 3 (Operand.tmp 23) (Operand.const (Value.int IntKind.i64 0)) 3, type := 4, pos := "span.go:48", after := #[{ on := 0, ground := Ground.data }], guard := none }) (v := ?_) rfl (by kernel_rfl) (by kernel_rfl) (by kernel_rfl) (fun _ _ _ h => h) (Or.inl ⟨by rfl, ?_⟩) (by assumption) ?_
          rotate_left 1
          · (intro w hSw; (try dsimp only at hSw); go_simp <;> (with_reducible rfl))
          (first | ((fail_if_success (unfold Act.put)); (try simp only [List.setIfInBounds_toArray, List.set_cons_zero, List.set_cons_succ])) | (try simp only [Act.put, List.setIfInBounds_toArray, List.set_cons_zero, List.set_cons_succ]))
          refine wpAnyH_take (i := 2) (oi := { dst := some 25, op := Op.move (Operand.tmp 24), type := 4, pos := "span.go:48", after := #[{ on := 1, ground := Ground.data }], guard := none }) (v := ?_) rfl (by kernel_rfl) (by kernel_rfl) (by kernel_rfl) (fun _ _ _ h => h) (Or.inl ⟨by rfl, ?_⟩) (by assumption) ?_
          rotate_left 1
          · (intro w hSw; (try dsimp only at hSw); go_simp <;> (with_reducible rfl))
          (first | ((fail_if_success (unfold Act.put)); (try simp only [List.setIfInBounds_toArray, List.set_cons_zero, List.set_cons_succ])) | (try simp only [Act.put, List.setIfInBounds_toArray, List.set_cons_zero, List.set_cons_succ]))
          refine wpAnyH_take (i := 3) (oi := { dst := some 26, op := Op.fieldAddr 31 (Operand.tmp 8) 0, type := 0, pos := "span.go:48", after := #[{ on := 2, ground := Ground.guard }], guard := some (2, true) }) (v := ?_) rfl (by kernel_rfl) (by kernel_rfl) (by kernel_rfl) (fun _ _ _ h => h) (Or.inl ⟨by rfl, ?_⟩) (by assumption) ?_
          rotate_left 1
          · (intro w hSw; (try dsimp only at hSw); go_simp <;> (with_reducible rfl))
          (first | ((fail_if_success (unfold Act.put)); (try simp only [List.setIfInBounds_toArray, List.set_cons_zero, List.set_cons_succ])) | (try simp only [Act.put, List.setIfInBounds_toArray, List.set_cons_zero, List.set_cons_succ]))
          refine wpAnyH_take (i := 4) (oi := { dst := some 27, op := Op.load 3 (Operand.tmp 26), type := 3, pos := "span.go:48", after := #[{ on := 3, ground := Ground.data }, { on := 2, ground := Ground.guard }], guard := some (2, true) }) (v := ?_) rfl (by kernel_rfl) (by kernel_rfl) (by kernel_rfl) (fun _ _ _ h => h) (Or.inl ⟨by rfl, ?_⟩) (by assumption) ?_
          rotate_left 1
          · (intro w hSw; (try dsimp only at hSw); go_simp <;> (with_reducible rfl))
          (first | ((fail_if_success (unfold Act.put)); (try simp only [List.setIfInBounds_toArray, List.set_cons_zero, List.set_cons_succ])) | (try simp only [Act.put, List.setIfInBounds_toArray, List.set_cons_zero, List.set_cons_succ]))
          refine wpAnyH_take (i := 5) (oi := { dst := some 28, op := Op.move (Operand.tmp 0), type := 22, pos := "span.go:48", after := #[{ on := 2, ground := Ground.guard }], guard := some (2, true) }) (v := ?_) rfl (by kernel_rfl) (by kernel_rfl) (by kernel_rfl) (fun _ _ _ h => h) (Or.inl ⟨by rfl, ?_⟩) (by assumption) ?_
          rotate_left 1
          · (intro w hSw; (try dsimp only at hSw); go_simp <;> (with_reducible rfl))
          (first | ((fail_if_success (unfold Act.put)); (try simp only [List.setIfInBounds_toArray, List.set_cons_zero, List.set_cons_succ])) | (try simp only [Act.put, List.setIfInBounds_toArray, List.set_cons_zero, List.set_cons_succ]))
          refine wpAnyH_take (i := 6) (oi := { dst := some 29, op := Op.move (Operand.tmp 7), type := 3, pos := "span.go:48", after := #[{ on := 2, ground := Ground.guard }], guard := some (2, true) }) (v := ?_) rfl (by kernel_rfl) (by kernel_rfl) (by kernel_rfl) (fun _ _ _ h => h) (Or.inl ⟨by rfl, ?_⟩) (by assumption) ?_
          rotate_left 1
          · (intro w hSw; (try dsimp only at hSw); go_simp <;> (with_reducible rfl))
          (first | ((fail_if_success (unfold Act.put)); (try simp only [List.setIfInBounds_toArray, List.set_cons_zero, List.set_cons_succ])) | (try simp only [Act.put, List.setIfInBounds_toArray, List.set_cons_zero, List.set_cons_succ]))
          refine wpAnyH_take (i := 7) (oi := { dst := some 30, op := Op.binOp BinOp.sub 3 (Operand.tmp 29) (Operand.const (Value.int IntKind.i64 1)) 3, type := 3, pos := "span.go:48", after := #[{ on := 6, ground := Ground.data }, { on := 2, ground := Ground.guard }], guard := some (2, true) }) (v := ?_) rfl (by kernel_rfl) (by kernel_rfl) (by kernel_rfl) (fun _ _ _ h => h) (Or.inl ⟨by rfl, ?_⟩) (by assumption) ?_
          rotate_left 1
          · (intro w hSw; (try dsimp only at hSw); go_simp <;> (with_reducible rfl))
          (first | ((fail_if_success (unfold Act.put)); (try simp only [List.setIfInBounds_toArray, List.set_cons_zero, List.set_cons_succ])) | (try simp only [Act.put, List.setIfInBounds_toArray, List.set_cons_zero, List.set_cons_succ]))
          refine wpAnyH_take (i := 8) (oi := { dst := some 31, op := Op.indexAddr 22 (Operand.tmp 28) (Operand.tmp 30), type := 0, pos := "span.go:48", after := #[{ on := 5, ground := Ground.data }, { on := 7, ground := Ground.data }, { on := 2, ground := Ground.guard }], guard := some (2, true) }) (v := ?_) rfl (by kernel_rfl) (by kernel_rfl) (by kernel_rfl) (fun _ _ _ h => h) (Or.inl ⟨by rfl, ?_⟩) (by assumption) ?_
          rotate_left 1
          · (intro w hSw; (try dsimp only at hSw); go_simp <;> (with_reducible rfl))
          (first | ((fail_if_success (unfold Act.put)); (try simp only [List.setIfInBounds_toArray, List.set_cons_zero, List.set_cons_succ])) | (try simp only [Act.put, List.setIfInBounds_toArray, List.set_cons_zero, List.set_cons_succ]))
          refine wpAnyH_take (i := 9) (oi := { dst := some 32, op := Op.fieldAddr 31 (Operand.tmp 31) 1, type := 0, pos := "span.go:48", after := #[{ on := 8, ground := Ground.data }, { on := 2, ground := Ground.guard }], guard := some (2, true) }) (v := ?_) rfl (by kernel_rfl) (by kernel_rfl) (by kernel_rfl) (fun _ _ _ h => h) (Or.inl ⟨by rfl, ?_⟩) (by assumption) ?_
          rotate_left 1
          · (intro w hSw; (try dsimp only at hSw); go_simp <;> (with_reducible rfl))
          (first | ((fail_if_success (unfold Act.put)); (try simp only [List.setIfInBounds_toArray, List.set_cons_zero, List.set_cons_succ])) | (try simp only [Act.put, List.setIfInBounds_toArray, List.set_cons_zero, List.set_cons_succ]))
          refine wpAnyH_take (i := 10) (oi := { dst := some 33, op := Op.load 3 (Operand.tmp 32), type := 3, pos := "span.go:48", after := #[{ on := 9, ground := Ground.data }, { on := 2, ground := Ground.guard }], guard := some (2, true) }) (v := ?_) rfl (by kernel_rfl) (by kernel_rfl) (by kernel_rfl) (fun _ _ _ h => h) (Or.inl ⟨by rfl, ?_⟩) (by assumption) ?_
          rotate_left 1
          · (intro w hSw; (try dsimp only at hSw); go_simp <;> (with_reducible rfl))
          (first | ((fail_if_success (unfold Act.put)); (try simp only [List.setIfInBounds_toArray, List.set_cons_zero, List.set_cons_succ])) | (try simp only [Act.put, List.setIfInBounds_toArray, List.set_cons_zero, List.set_cons_succ]))
          refine wpAnyH_take (i := 11) (oi := { dst := some 34, op := Op.binOp BinOp.sub 3 (Operand.tmp 27) (Operand.tmp 33) 3, type := 3, pos := "span.go:48", after := #[{ on := 4, ground := Ground.data }, { on := 10, ground := Ground.data }, { on := 2, ground := Ground.guard }], guard := some (2, true) }) (v := ?_) rfl (by kernel_rfl) (by kernel_rfl) (by kernel_rfl) (fun _ _ _ h => h) (Or.inl ⟨by rfl, ?_⟩) (by assumption) ?_
          rotate_left 1
          · (intro w hSw; (try dsimp only at hSw); go_simp <;> (with_reducible rfl))
          (first | ((fail_if_success (unfold Act.put)); (try simp only [List.setIfInBounds_toArray, List.set_cons_zero, List.set_cons_succ])) | (try simp only [Act.put, List.setIfInBounds_toArray, List.set_cons_zero, List.set_cons_succ]))
          refine wpAnyH_take (i := 12) (oi := { dst := some 35, op := Op.move (Operand.tmp 1), type := 3, pos := "span.go:48", after := #[{ on := 2, ground := Ground.guard }], guard := some (2, true) }) (v := ?_) rfl (by kernel_rfl) (by kernel_rfl) (by kernel_rfl) (fun _ _ _ h => h) (Or.inl ⟨by rfl, ?_⟩) (by assumption) ?_
          rotate_left 1
          · (intro w hSw; (try dsimp only at hSw); go_simp <;> (with_reducible rfl))
          (first | ((fail_if_success (unfold Act.put)); (try simp only [List.setIfInBounds_toArray, List.set_cons_zero, List.set_cons_succ])) | (try simp only [Act.put, List.setIfInBounds_toArray, List.set_cons_zero, List.set_cons_succ]))
          refine wpAnyH_take (i := 13) (oi := { dst := some 36, op := Op.binOp BinOp.leq 3 (Operand.tmp 34) (Operand.tmp 35) 3, type := 4, pos := "span.go:48", after := #[{ on := 11, ground := Ground.data }, { on := 12, ground := Ground.data }, { on := 2, ground := Ground.guard }], guard := some (2, true) }) (v := ?_) rfl (by kernel_rfl) (by kernel_rfl) (by kernel_rfl) (fun _ _ _ h => h) (Or.inl ⟨by rfl, ?_⟩) (by assumption) ?_
          rotate_left 1
          · (intro w hSw; (try dsimp only at hSw); go_simp <;> (with_reducible rfl))
          (first | ((fail_if_success (unfold Act.put)); (try simp only [List.setIfInBounds_toArray, List.set_cons_zero, List.set_cons_succ])) | (try simp only [Act.put, List.setIfInBounds_toArray, List.set_cons_zero, List.set_cons_succ]))
          refine wpAnyH_take (i := 14) (oi := { dst := some 37, op := Op.pick (Operand.tmp 25) (Operand.tmp 36) (Operand.const (Value.bool false)), type := 4, pos := "span.go:48", after := #[{ on := 2, ground := Ground.data }, { on := 13, ground := Ground.data }], guard := none }) (v := ?_) rfl (by kernel_rfl) (by kernel_rfl) (by kernel_rfl) (fun _ _ _ h => h) (Or.inl ⟨by rfl, ?_⟩) (by assumption) ?_
          rotate_left 1
          · (intro w hSw; (try dsimp only at hSw); go_simp <;> (with_reducible rfl))
          (first | ((fail_if_success (unfold Act.put)); (try simp only [List.setIfInBounds_toArray, List.set_cons_zero, List.set_cons_succ])) | (try simp only [Act.put, List.setIfInBounds_toArray, List.set_cons_zero, List.set_cons_succ]))
          refine wpAnyH_done (by kernel_rfl) ?_ _
          refine NoPanic.normal ?_
          clear hR0
          have hSd : W.drew.cell? ⟨wr.heap.size, 0, none⟩ = some (.int .i64 x) ∧ W.drew.cell? ⟨wr.heap.size, 1, none⟩ = some (.int .i64 y) := hS0
          have hOd := HOA.out.drew
          have hBd := HB.out.drew
          clear hS0 HOA HB HX
          obtain ⟨W2, hW2⟩ : ∃ W2, W.drew = W2 := ⟨_, rfl⟩
          rw [hW2] at hSd hOd hBd ⊢
          clear hW2
          have HB := Lib.hid hBd
          have HOA := Lib.hid hOd
          clear hBd hOd
          obtain ⟨x1, x2⟩ := hSd
          clear q1 q2 q3 q4 q5 q6
          have hO : W2.ownsRow w.heap.size 31 2 u6 (m.length + 1) (cellsS (m ++ [(f, z)])) := by have := HOA.out; rwa [List.length_append] at this
          obtain ⟨g, cap', rfl⟩ := ownsRow_succ hO
          have hcell := hO.cellAt (m.length * 2 + 1) (by omega)
          have hg2 := (cellsS_get (m ++ [(f, z)]) m.length (by simp)).2
          rw [hg2] at hcell
          have hfro := hO.frozenAt (m.length * 2 + 1)
          have hge := (hO.lt g rfl).1
          have HST := Lib.hid (hO.stored (m.length * 2 + 1) (.int .i64 y)).1
          rw [cellsS_set] at HST
          have HE := Lib.hid (HB.out.setCell (p := ⟨g, m.length * 2 + 1, none⟩) hge (.int .i64 y))
          have HF : Hid ((W2.setCell ⟨g, m.length * 2 + 1, none⟩ (.int .i64 y)).ownsRow w.heap.size 31 2 (.slice (some ⟨g, 0, none⟩) (m.length + 1) cap') (bridge days (l.take (k + 1))).length (cellsS (bridge days (l.take (k + 1))))) := Lib.hid (by rw [HN.out, List.length_append]; exact HST.out)
          clear hO hg2 HST HOA hge
          go_wp2
          go_roundw
          case rel => exact ⟨k + 1, by omega, by go_num, HF, HE.out⟩
          case measure => simp [intOf]; omega
        · rw [if_neg hgap] at HN
          have q7 : decide (x - z ≤ days) = false := by simp; omega
          go_wp2_with fail
          obtain ⟨W, hW⟩ : ∃ W, wr.alloc (.cells #[.int .i64 x, .int .i64 y] 31) = W := ⟨_, rfl⟩
          have hS1 : W.cell? ⟨b, off + (k - 1) * 2 + 1, none⟩ = some (.int .i64 z) := by rw [← hW]; exact (World.cell?_alloc_lt _ _ _ hbr).trans hpz.out
          rw [hW] at HX HB HOA ⊢
          clear hW
          have hS0 := HX.out.cells
          refine wp_region_noPanic ?_
          refine wp_region_held_drew (S := (fun w' => w'.cell? ⟨wr.heap.size, 0, none⟩ = some (.int .i64 x) ∧ w'.cell? ⟨wr.heap.size, 1, none⟩ = some (.int .i64 y) ∧ w'.cell? ⟨b, off + (k - 1) * 2 + 1, none⟩ = some (.int .i64 z))) (by kernel_rfl) ⟨hS0.1, hS0.2, hS1⟩ (fun hR0 => ?_)
          change wpAnyH _ _ _ _ _ 15 #[false, false, false, false, false, false, false, false, false, false, false, false, false, false, false] _ _
          clear hS1 hpz
          refine wpAnyH_take (i := 0) (oi := { dst := some 23, op := Op.move (Operand.tmp 7), type := 3, pos := "span.go:48", after := #[], guard := none }) (v := ?_) rfl (by kernel_rfl) (by kernel_rfl) (by kernel_rfl) (fun _ _ _ h => h) (Or.inl ⟨by rfl, ?_⟩) (by assumption) ?_
          rotate_left 1
          · (intro w hSw; (try dsimp only at hSw); go_simp <;> (with_reducible rfl))
          (first | ((fail_if_success (unfold Act.put)); (try simp only [List.setIfInBounds_toArray, List.set_cons_zero, List.set_cons_succ])) | (try simp only [Act.put, List.setIfInBounds_toArray, List.set_cons_zero, List.set_cons_succ]))
          refine wpAnyH_take (i := 1) (oi := { dst := some 24, op := Op.binOp BinOp.gtr 3 (Operand.tmp 23) (Operand.const (Value.int IntKind.i64 0)) 3, type := 4, pos := "span.go:48", after := #[{ on := 0, ground := Ground.data }], guard := none }) (v := ?_) rfl (by kernel_rfl) (by kernel_rfl) (by kernel_rfl) (fun _ _ _ h => h) (Or.inl ⟨by rfl, ?_⟩) (by assumption) ?_
          rotate_left 1
          · (intro w hSw; (try dsimp only at hSw); go_simp <;> (with_reducible rfl))
          (first | ((fail_if_success (unfold Act.put)); (try simp only [List.setIfInBounds_toArray, List.set_cons_zero, List.set_cons_succ])) | (try simp only [Act.put, List.setIfInBounds_toArray, List.set_cons_zero, List.set_cons_succ]))
          refine wpAnyH_take (i := 2) (oi := { dst := some 25, op := Op.move (Operand.tmp 24), type := 4, pos := "span.go:48", after := #[{ on := 1, ground := Ground.data }], guard := none }) (v := ?_) rfl (by kernel_rfl) (by kernel_rfl) (by kernel_rfl) (fun _ _ _ h => h) (Or.inl ⟨by rfl, ?_⟩) (by assumption) ?_
          rotate_left 1
          · (intro w hSw; (try dsimp only at hSw); go_simp <;> (with_reducible rfl))
          (first | ((fail_if_success (unfold Act.put)); (try simp only [List.setIfInBounds_toArray, List.set_cons_zero, List.set_cons_succ])) | (try simp only [Act.put, List.setIfInBounds_toArray, List.set_cons_zero, List.set_cons_succ]))
          refine wpAnyH_take (i := 3) (oi := { dst := some 26, op := Op.fieldAddr 31 (Operand.tmp 8) 0, type := 0, pos := "span.go:48", after := #[{ on := 2, ground := Ground.guard }], guard := some (2, true) }) (v := ?_) rfl (by kernel_rfl) (by kernel_rfl) (by kernel_rfl) (fun _ _ _ h => h) (Or.inl ⟨by rfl, ?_⟩) (by assumption) ?_
          rotate_left 1
          · (intro w hSw; (try dsimp only at hSw); go_simp <;> (with_reducible rfl))
          (first | ((fail_if_success (unfold Act.put)); (try simp only [List.setIfInBounds_toArray, List.set_cons_zero, List.set_cons_succ])) | (try simp only [Act.put, List.setIfInBounds_toArray, List.set_cons_zero, List.set_cons_succ]))
          refine wpAnyH_take (i := 4) (oi := { dst := some 27, op := Op.load 3 (Operand.tmp 26), type := 3, pos := "span.go:48", after := #[{ on := 3, ground := Ground.data }, { on := 2, ground := Ground.guard }], guard := some (2, true) }) (v := ?_) rfl (by kernel_rfl) (by kernel_rfl) (by kernel_rfl) (fun _ _ _ h => h) (Or.inl ⟨by rfl, ?_⟩) (by assumption) ?_
          rotate_left 1
          · (intro w hSw; (try dsimp only at hSw); go_simp <;> (with_reducible rfl))
          (first | ((fail_if_success (unfold Act.put)); (try simp only [List.setIfInBounds_toArray, List.set_cons_zero, List.set_cons_succ])) | (try simp only [Act.put, List.setIfInBounds_toArray, List.set_cons_zero, List.set_cons_succ]))
          refine wpAnyH_take (i := 5) (oi := { dst := some 28, op := Op.move (Operand.tmp 0), type := 22, pos := "span.go:48", after := #[{ on := 2, ground := Ground.guard }], guard := some (2, true) }) (v := ?_) rfl (by kernel_rfl) (by kernel_rfl) (by kernel_rfl) (fun _ _ _ h => h) (Or.inl ⟨by rfl, ?_⟩) (by assumption) ?_
          rotate_left 1
          · (intro w hSw; (try dsimp only at hSw); go_simp <;> (with_reducible rfl))
          (first | ((fail_if_success (unfold Act.put)); (try simp only [List.setIfInBounds_toArray, List.set_cons_zero, List.set_cons_succ])) | (try simp only [Act.put, List.setIfInBounds_toArray, List.set_cons_zero, List.set_cons_succ]))
          refine wpAnyH_take (i := 6) (oi := { dst := some 29, op := Op.move (Operand.tmp 7), type := 3, pos := "span.go:48", after := #[{ on := 2, ground := Ground.guard }], guard := some (2, true) }) (v := ?_) rfl (by kernel_rfl) (by kernel_rfl) (by kernel_rfl) (fun _ _ _ h => h) (Or.inl ⟨by rfl, ?_⟩) (by assumption) ?_
          rotate_left 1
          · (intro w hSw; (try dsimp only at hSw); go_simp <;> (with_reducible rfl))
          (first | ((fail_if_success (unfold Act.put)); (try simp only [List.setIfInBounds_toArray, List.set_cons_zero, List.set_cons_succ])) | (try simp only [Act.put, List.setIfInBounds_toArray, List.set_cons_zero, List.set_cons_succ]))
          refine wpAnyH_take (i := 7) (oi := { dst := some 30, op := Op.binOp BinOp.sub 3 (Operand.tmp 29) (Operand.const (Value.int IntKind.i64 1)) 3, type := 3, pos := "span.go:48", after := #[{ on := 6, ground := Ground.data }, { on := 2, ground := Ground.guard }], guard := some (2, true) }) (v := ?_) rfl (by kernel_rfl) (by kernel_rfl) (by kernel_rfl) (fun _ _ _ h => h) (Or.inl ⟨by rfl, ?_⟩) (by assumption) ?_
          rotate_left 1
          · (intro w hSw; (try dsimp only at hSw); go_simp <;> (with_reducible rfl))
          (first | ((fail_if_success (unfold Act.put)); (try simp only [List.setIfInBounds_toArray, List.set_cons_zero, List.set_cons_succ])) | (try simp only [Act.put, List.setIfInBounds_toArray, List.set_cons_zero, List.set_cons_succ]))
          refine wpAnyH_take (i := 8) (oi := { dst := some 31, op := Op.indexAddr 22 (Operand.tmp 28) (Operand.tmp 30), type := 0, pos := "span.go:48", after := #[{ on := 5, ground := Ground.data }, { on := 7, ground := Ground.data }, { on := 2, ground := Ground.guard }], guard := some (2, true) }) (v := ?_) rfl (by kernel_rfl) (by kernel_rfl) (by kernel_rfl) (fun _ _ _ h => h) (Or.inl ⟨by rfl, ?_⟩) (by assumption) ?_
          rotate_left 1
          · (intro w hSw; (try dsimp only at hSw); go_simp <;> (with_reducible rfl))
          (first | ((fail_if_success (unfold Act.put)); (try simp only [List.setIfInBounds_toArray, List.set_cons_zero, List.set_cons_succ])) | (try simp only [Act.put, List.setIfInBounds_toArray, List.set_cons_zero, List.set_cons_succ]))
          refine wpAnyH_take (i := 9) (oi := { dst := some 32, op := Op.fieldAddr 31 (Operand.tmp 31) 1, type := 0, pos := "span.go:48", after := #[{ on := 8, ground := Ground.data }, { on := 2, ground := Ground.guard }], guard := some (2, true) }) (v := ?_) rfl (by kernel_rfl) (by kernel_rfl) (by kernel_rfl) (fun _ _ _ h => h) (Or.inl ⟨by rfl, ?_⟩) (by assumption) ?_
          rotate_left 1
          · (intro w hSw; (try dsimp only at hSw); go_simp <;> (with_reducible rfl))
          (first | ((fail_if_success (unfold Act.put)); (try simp only [List.setIfInBounds_toArray, List.set_cons_zero, List.set_cons_succ])) | (try simp only [Act.put, List.setIfInBounds_toArray, List.set_cons_zero, List.set_cons_succ]))
          refine wpAnyH_take (i := 10) (oi := { dst := some 33, op := Op.load 3 (Operand.tmp 32), type := 3, pos := "span.go:48", after := #[{ on := 9, ground := Ground.data }, { on := 2, ground := Ground.guard }], guard := some (2, true) }) (v := ?_) rfl (by kernel_rfl) (by kernel_rfl) (by kernel_rfl) (fun _ _ _ h => h) (Or.inl ⟨by rfl, ?_⟩) (by assumption) ?_
          rotate_left 1
          · (intro w hSw; (try dsimp only at hSw); go_simp <;> (with_reducible rfl))
          (first | ((fail_if_success (unfold Act.put)); (try simp only [List.setIfInBounds_toArray, List.set_cons_zero, List.set_cons_succ])) | (try simp only [Act.put, List.setIfInBounds_toArray, List.set_cons_zero, List.set_cons_succ]))
          refine wpAnyH_take (i := 11) (oi := { dst := some 34, op := Op.binOp BinOp.sub 3 (Operand.tmp 27) (Operand.tmp 33) 3, type := 3, pos := "span.go:48", after := #[{ on := 4, ground := Ground.data }, { on := 10, ground := Ground.data }, { on := 2, ground := Ground.guard }], guard := some (2, true) }) (v := ?_) rfl (by kernel_rfl) (by kernel_rfl) (by kernel_rfl) (fun _ _ _ h => h) (Or.inl ⟨by rfl, ?_⟩) (by assumption) ?_
          rotate_left 1
          · (intro w hSw; (try dsimp only at hSw); go_simp <;> (with_reducible rfl))
          (first | ((fail_if_success (unfold Act.put)); (try simp only [List.setIfInBounds_toArray, List.set_cons_zero, List.set_cons_succ])) | (try simp only [Act.put, List.setIfInBounds_toArray, List.set_cons_zero, List.set_cons_succ]))
          refine wpAnyH_take (i := 12) (oi := { dst := some 35, op := Op.move (Operand.tmp 1), type := 3, pos := "span.go:48", after := #[{ on := 2, ground := Ground.guard }], guard := some (2, true) }) (v := ?_) rfl (by kernel_rfl) (by kernel_rfl) (by kernel_rfl) (fun _ _ _ h => h) (Or.inl ⟨by rfl, ?_⟩) (by assumption) ?_
          rotate_left 1
          · (intro w hSw; (try dsimp only at hSw); go_simp <;> (with_reducible rfl))
          (first | ((fail_if_success (unfold Act.put)); (try simp only [List.setIfInBounds_toArray, List.set_cons_zero, List.set_cons_succ])) | (try simp only [Act.put, List.setIfInBounds_toArray, List.set_cons_zero, List.set_cons_succ]))
          refine wpAnyH_take (i := 13) (oi := { dst := some 36, op := Op.binOp BinOp.leq 3 (Operand.tmp 34) (Operand.tmp 35) 3, type := 4, pos := "span.go:48", after := #[{ on := 11, ground := Ground.data }, { on := 12, ground := Ground.data }, { on := 2, ground := Ground.guard }], guard := some (2, true) }) (v := ?_) rfl (by kernel_rfl) (by kernel_rfl) (by kernel_rfl) (fun _ _ _ h => h) (Or.inl ⟨by rfl, ?_⟩) (by assumption) ?_
          rotate_left 1
          · (intro w hSw; (try dsimp only at hSw); go_simp <;> (with_reducible rfl))
          (first | ((fail_if_success (unfold Act.put)); (try simp only [List.setIfInBounds_toArray, List.set_cons_zero, List.set_cons_succ])) | (try simp only [Act.put, List.setIfInBounds_toArray, List.set_cons_zero, List.set_cons_succ]))
          refine wpAnyH_take (i := 14) (oi := { dst := some 37, op := Op.pick (Operand.tmp 25) (Operand.tmp 36) (Operand.const (Value.bool false)), type := 4, pos := "span.go:48", after := #[{ on := 2, ground := Ground.data }, { on := 13, ground := Ground.data }], guard := none }) (v := ?_) rfl (by kernel_rfl) (by kernel_rfl) (by kernel_rfl) (fun _ _ _ h => h) (Or.inl ⟨by rfl, ?_⟩) (by assumption) ?_
          rotate_left 1
          · (intro w hSw; (try dsimp only at hSw); go_simp <;> (with_reducible rfl))
          (first | ((fail_if_success (unfold Act.put)); (try simp only [List.setIfInBounds_toArray, List.set_cons_zero, List.set_cons_succ])) | (try simp only [Act.put, List.setIfInBounds_toArray, List.set_cons_zero, List.set_cons_succ]))
          refine wpAnyH_done (by kernel_rfl) ?_ _
          refine NoPanic.normal ?_
          clear hR0
          have hSd : W.drew.cell? ⟨wr.heap.size, 0, none⟩ = some (.int .i64 x) ∧ W.drew.cell? ⟨wr.heap.size, 1, none⟩ = some (.int .i64 y) := hS0
          have hOd := HOA.out.drew
          have hBd := HB.out.drew
          clear hS0 HOA HB HX
          obtain ⟨W2, hW2⟩ : ∃ W2, W.drew = W2 := ⟨_, rfl⟩
          rw [hW2] at hSd hOd hBd ⊢
          clear hW2
          have HB := Lib.hid hBd
          have HOA := Lib.hid hOd
          clear hBd hOd
          obtain ⟨x1, x2⟩ := hSd
          clear q1 q2 q3 q4 q5 q6
          have hsz : w.heap.size ≤ W2.heap.size := HB.out.size
          have hOw := HOA
          have hlen : (m ++ [(f, z)]).length ≤ 32769 := by simp; omega
          clear HOA
          go_wp2_with (at_builtin; refine wpList_append_own _ rfl _ _ 22 rfl w.heap.size 31 i0 (.agg #[.int .i64 0, .int .i64 0]) 2 16 Tryz.underlying22 hi hz0 hz1 hz2 rfl (by decide) _ _ _ rfl (hOw.out.alloc _) ⟨W2.heap.size, 0, none⟩ 1 1 [.int .i64 x, .int .i64 y] rfl rfl (cell_two_new _ _ _ _) (by simp [Value.oneCell']) (by unfold maxLen; omega) (by omega) (by simp; omega) ?_; intro v' w4 hown' hgrow _)
          have HE := Lib.hid ((HB.out.alloc hsz (.cells #[.int .i64 x, .int .i64 y] 31)).grown hgrow (by simp; omega) (fun k e => (hOw.out.lt k e).1))
          have HF : Hid (w4.ownsRow w.heap.size 31 2 v' (bridge days (l.take (k + 1))).length (cellsS (bridge days (l.take (k + 1))))) := Lib.hid (by rw [HN.out]; rw [cellsS_append _ [(x, y)], List.length_append]; exact hown')
          clear hown' hgrow
          go_wp2
          go_roundw
          case rel => exact ⟨k + 1, by omega, by go_num, HF, HE.out⟩
          case measure => simp [intOf]; omega
      · have hk0 : k = 0 := by omega
        have q1 : decide (0 < k) = false := by simpa using k0
        have q2 : decide ((0 : Int) < (k : Int)) = false := by simp; omega
        have hm : bridge days (l.take k) = [] := by rw [hk0]; rfl
        rw [hm] at HOA HN
        rw [stepB_nil] at HN
        clear hm HBP hp hpb hk0
        go_wp2_with fail
        obtain ⟨W, hW⟩ : ∃ W, wr.alloc (.cells #[.int .i64 x, .int .i64 y] 31) = W := ⟨_, rfl⟩
        rw [hW] at HX HB HOA ⊢
        clear hW
        have hS0 := HX.out.cells
        refine wp_region_noPanic ?_
        refine wp_region_held_drew (S := (fun w' => w'.cell? ⟨wr.heap.size, 0, none⟩ = some (.int .i64 x) ∧ w'.cell? ⟨wr.heap.size, 1, none⟩ = some (.int .i64 y))) (by kernel_rfl) hS0 (fun hR0 => ?_)
        change wpAnyH _ _ _ _ _ 15 #[false, false, false, false, false, false, false, false, false, false, false, false, false, false, false] _ _
        refine wpAnyH_take (i := 0) (oi := { dst := some 23, op := Op.move (Operand.tmp 7), type := 3, pos := "span.go:48", after := #[], guard := none }) (v := ?_) rfl (by kernel_rfl) (by kernel_rfl) (by kernel_rfl) (fun _ _ _ h => h) (Or.inl ⟨by rfl, ?_⟩) (by assumption) ?_
        rotate_left 1
        · (intro w hSw; (try dsimp only at hSw); go_simp <;> (with_reducible rfl))
        (first | ((fail_if_success (unfold Act.put)); (try simp only [List.setIfInBounds_toArray, List.set_cons_zero, List.set_cons_succ])) | (try simp only [Act.put, List.setIfInBounds_toArray, List.set_cons_zero, List.set_cons_succ]))
        refine wpAnyH_take (i := 1) (oi := { dst := some 24, op := Op.binOp BinOp.gtr 3 (Operand.tmp 23) (Operand.const (Value.int IntKind.i64 0)) 3, type := 4, pos := "span.go:48", after := #[{ on := 0, ground := Ground.data }], guard := none }) (v := ?_) rfl (by kernel_rfl) (by kernel_rfl) (by kernel_rfl) (fun _ _ _ h => h) (Or.inl ⟨by rfl, ?_⟩) (by assumption) ?_
        rotate_left 1
        · (intro w hSw; (try dsimp only at hSw); go_simp <;> (with_reducible rfl))
        (first | ((fail_if_success (unfold Act.put)); (try simp only [List.setIfInBounds_toArray, List.set_cons_zero, List.set_cons_succ])) | (try simp only [Act.put, List.setIfInBounds_toArray, List.set_cons_zero, List.set_cons_succ]))
        refine wpAnyH_take (i := 2) (oi := { dst := some 25, op := Op.move (Operand.tmp 24), type := 4, pos := "span.go:48", after := #[{ on := 1, ground := Ground.data }], guard := none }) (v := ?_) rfl (by kernel_rfl) (by kernel_rfl) (by kernel_rfl) (fun _ _ _ h => h) (Or.inl ⟨by rfl, ?_⟩) (by assumption) ?_
        rotate_left 1
        · (intro w hSw; (try dsimp only at hSw); go_simp <;> (with_reducible rfl))
        (first | ((fail_if_success (unfold Act.put)); (try simp only [List.setIfInBounds_toArray, List.set_cons_zero, List.set_cons_succ])) | (try simp only [Act.put, List.setIfInBounds_toArray, List.set_cons_zero, List.set_cons_succ]))
        refine wpAnyH_take (i := 3) (oi := { dst := some 26, op := Op.fieldAddr 31 (Operand.tmp 8) 0, type := 0, pos := "span.go:48", after := #[{ on := 2, ground := Ground.guard }], guard := some (2, true) }) (v := undef) rfl (by kernel_rfl) (by kernel_rfl) (by kernel_rfl) (fun _ _ _ h => h) (Or.inr ⟨by rfl, rfl⟩) (by assumption) ?_
        (first | ((fail_if_success (unfold Act.put)); (try simp only [List.setIfInBounds_toArray, List.set_cons_zero, List.set_cons_succ])) | (try simp only [Act.put, List.setIfInBounds_toArray, List.set_cons_zero, List.set_cons_succ]))
        refine wpAnyH_take (i := 4) (oi := { dst := some 27, op := Op.load 3 (Operand.tmp 26), type := 3, pos := "span.go:48", after := #[{ on := 3, ground := Ground.data }, { on := 2, ground := Ground.guard }], guard := some (2, true) }) (v := undef) rfl (by kernel_rfl) (by kernel_rfl) (by kernel_rfl) (fun _ _ _ h => h) (Or.inr ⟨by rfl, rfl⟩) (by assumption) ?_
        (first | ((fail_if_success (unfold Act.put)); (try simp only [List.setIfInBounds_toArray, List.set_cons_zero, List.set_cons_succ])) | (try simp only [Act.put, List.setIfInBounds_toArray, List.set_cons_zero, List.set_cons_succ]))
        refine wpAnyH_take (i := 5) (oi := { dst := some 28, op := Op.move (Operand.tmp 0), type := 22, pos := "span.go:48", after := #[{ on := 2, ground := Ground.guard }], guard := some (2, true) }) (v := undef) rfl (by kernel_rfl) (by kernel_rfl) (by kernel_rfl) (fun _ _ _ h => h) (Or.inr ⟨by rfl, rfl⟩) (by assumption) ?_
        (first | ((fail_if_success (unfold Act.put)); (try simp only [List.setIfInBounds_toArray, List.set_cons_zero, List.set_cons_succ])) | (try simp only [Act.put, List.setIfInBounds_toArray, List.set_cons_zero, List.set_cons_succ]))
        refine wpAnyH_take (i := 6) (oi := { dst := some 29, op := Op.move (Operand.tmp 7), type := 3, pos := "span.go:48", after := #[{ on := 2, ground := Ground.guard }], guard := some (2, true) }) (v := undef) rfl (by kernel_rfl) (by kernel_rfl) (by kernel_rfl) (fun _ _ _ h => h) (Or.inr ⟨by rfl, rfl⟩) (by assumption) ?_
        (first | ((fail_if_success (unfold Act.put)); (try simp only [List.setIfInBounds_toArray, List.set_cons_zero, List.set_cons_succ])) | (try simp only [Act.put, List.setIfInBounds_toArray, List.set_cons_zero, List.set_cons_succ]))
        refine wpAnyH_take (i := 7) (oi := { dst := some 30, op := Op.binOp BinOp.sub 3 (Operand.tmp 29) (Operand.const (Value.int IntKind.i64 1)) 3, type := 3, pos := "span.go:48", after := #[{ on := 6, ground := Ground.data }, { on := 2, ground := Ground.guard }], guard := some (2, true) }) (v := undef) rfl (by kernel_rfl) (by kernel_rfl) (by kernel_rfl) (fun _ _ _ h => h) (Or.inr ⟨by rfl, rfl⟩) (by assumption) ?_
        (first | ((fail_if_success (unfold Act.put)); (try simp only [List.setIfInBounds_toArray, List.set_cons_zero, List.set_cons_succ])) | (try simp only [Act.put, List.setIfInBounds_toArray, List.set_cons_zero, List.set_cons_succ]))
        refine wpAnyH_take (i := 8) (oi := { dst := some 31, op := Op.indexAddr 22 (Operand.tmp 28) (Operand.tmp 30), type := 0, pos := "span.go:48", after := #[{ on := 5, ground := Ground.data }, { on := 7, ground := Ground.data }, { on := 2, ground := Ground.guard }], guard := some (2, true) }) (v := undef) rfl (by kernel_rfl) (by kernel_rfl) (by kernel_rfl) (fun _ _ _ h => h) (Or.inr ⟨by rfl, rfl⟩) (by assumption) ?_
        (first | ((fail_if_success (unfold Act.put)); (try simp only [List.setIfInBounds_toArray, List.set_cons_zero, List.set_cons_succ])) | (try simp only [Act.put, List.setIfInBounds_toArray, List.set_cons_zero, List.set_cons_succ]))
        refine wpAnyH_take (i := 9) (oi := { dst := some 32, op := Op.fieldAddr 31 (Operand.tmp 31) 1, type := 0, pos := "span.go:48", after := #[{ on := 8, ground := Ground.data }, { on := 2, ground := Ground.guard }], guard := some (2, true) }) (v := undef) rfl (by kernel_rfl) (by kernel_rfl) (by kernel_rfl) (fun _ _ _ h => h) (Or.inr ⟨by rfl, rfl⟩) (by assumption) ?_
        (first | ((fail_if_success (unfold Act.put)); (try simp only [List.setIfInBounds_toArray, List.set_cons_zero, List.set_cons_succ])) | (try simp only [Act.put, List.setIfInBounds_toArray, List.set_cons_zero, List.set_cons_succ]))
        refine wpAnyH_take (i := 10) (oi := { dst := some 33, op := Op.load 3 (Operand.tmp 32), type := 3, pos := "span.go:48", after := #[{ on := 9, ground := Ground.data }, { on := 2, ground := Ground.guard }], guard := some (2, true) }) (v := undef) rfl (by kernel_rfl) (by kernel_rfl) (by kernel_rfl) (fun _ _ _ h => h) (Or.inr ⟨by rfl, rfl⟩) (by assumption) ?_
        (first | ((fail_if_success (unfold Act.put)); (try simp only [List.setIfInBounds_toArray, List.set_cons_zero, List.set_cons_succ])) | (try simp only [Act.put, List.setIfInBounds_toArray, List.set_cons_zero, List.set_cons_succ]))
        refine wpAnyH_take (i := 11) (oi := { dst := some 34, op := Op.binOp BinOp.sub 3 (Operand.tmp 27) (Operand.tmp 33) 3, type := 3, pos := "span.go:48", after := #[{ on := 4, ground := Ground.data }, { on := 10, ground := Ground.data }, { on := 2, ground := Ground.guard }], guard := some (2, true) }) (v := undef) rfl (by kernel_rfl) (by kernel_rfl) (by kernel_rfl) (fun _ _ _ h => h) (Or.inr ⟨by rfl, rfl⟩) (by assumption) ?_
        (first | ((fail_if_success (unfold Act.put)); (try simp only [List.setIfInBounds_toArray, List.set_cons_zero, List.set_cons_succ])) | (try simp only [Act.put, List.setIfInBounds_toArray, List.set_cons_zero, List.set_cons_succ]))
        refine wpAnyH_take (i := 12) (oi := { dst := some 35, op := Op.move (Operand.tmp 1), type := 3, pos := "span.go:48", after := #[{ on := 2, ground := Ground.guard }], guard := some (2, true) }) (v := undef) rfl (by kernel_rfl) (by kernel_rfl) (by kernel_rfl) (fun _ _ _ h => h) (Or.inr ⟨by rfl, rfl⟩) (by assumption) ?_
        (first | ((fail_if_success (unfold Act.put)); (try simp only [List.setIfInBounds_toArray, List.set_cons_zero, List.set_cons_succ])) | (try simp only [Act.put, List.setIfInBounds_toArray, List.set_cons_zero, List.set_cons_succ]))
        refine wpAnyH_take (i := 13) (oi := { dst := some 36, op := Op.binOp BinOp.leq 3 (Operand.tmp 34) (Operand.tmp 35) 3, type := 4, pos := "span.go:48", after := #[{ on := 11, ground := Ground.data }, { on := 12, ground := Ground.data }, { on := 2, ground := Ground.guard }], guard := some (2, true) }) (v := undef) rfl (by kernel_rfl) (by kernel_rfl) (by kernel_rfl) (fun _ _ _ h => h) (Or.inr ⟨by rfl, rfl⟩) (by assumption) ?_
        (first | ((fail_if_success (unfold Act.put)); (try simp only [List.setIfInBounds_toArray, List.set_cons_zero, List.set_cons_succ])) | (try simp only [Act.put, List.setIfInBounds_toArray, List.set_cons_zero, List.set_cons_succ]))
        refine wpAnyH_take (i := 14) (oi := { dst := some 37, op := Op.pick (Operand.tmp 25) (Operand.tmp 36) (Operand.const (Value.bool false)), type := 4, pos := "span.go:48", after := #[{ on := 2, ground := Ground.data }, { on := 13, ground := Ground.data }], guard := none }) (v := ?_) rfl (by kernel_rfl) (by kernel_rfl) (by kernel_rfl) (fun _ _ _ h => h) (Or.inl ⟨by rfl, ?_⟩) (by assumption) ?_
        rotate_left 1
        · (intro w hSw; (try dsimp only at hSw); go_simp <;> (with_reducible rfl))
        (first | ((fail_if_success (unfold Act.put)); (try simp only [List.setIfInBounds_toArray, List.set_cons_zero, List.set_cons_succ])) | (try simp only [Act.put, List.setIfInBounds_toArray, List.set_cons_zero, List.set_cons_succ]))
        refine wpAnyH_done (by kernel_rfl) ?_ _
        refine NoPanic.normal ?_
        clear hR0
        have hSd : W.drew.cell? ⟨wr.heap.size, 0, none⟩ = some (.int .i64 x) ∧ W.drew.cell? ⟨wr.heap.size, 1, none⟩ = some (.int .i64 y) := hS0
        have hOd := HOA.out.drew
        have hBd := HB.out.drew
        clear hS0 HOA HB HX
        obtain ⟨W2, hW2⟩ : ∃ W2, W.drew = W2 := ⟨_, rfl⟩
        rw [hW2] at hSd hOd hBd ⊢
        clear hW2
        have HB := Lib.hid hBd
        have HOA := Lib.hid hOd
        clear hBd hOd
        obtain ⟨x1, x2⟩ := hSd
        clear q1 q2
        have hsz : w.heap.size ≤ W2.heap.size := HB.out.size
        have hOw := HOA
        have hlen : (([] : L)).length ≤ 32769 := by simp
        clear HOA
        go_wp2_with (at_builtin; refine wpList_append_own _ rfl _ _ 22 rfl w.heap.size 31 i0 (.agg #[.int .i64 0, .int .i64 0]) 2 16 Tryz.underlying22 hi hz0 hz1 hz2 rfl (by decide) _ _ _ rfl (hOw.out.alloc _) ⟨W2.heap.size, 0, none⟩ 1 1 [.int .i64 x, .int .i64 y] rfl rfl (cell_two_new _ _ _ _) (by simp [Value.oneCell']) (by unfold maxLen; omega) (by omega) (by simp; omega) ?_; intro v' w4 hown' hgrow _)
        have HE := Lib.hid ((HB.out.alloc hsz (.cells #[.int .i64 x, .int .i64 y] 31)).grown hgrow (by simp; omega) (fun k e => (hOw.out.lt k e).1))
        have HF : Hid (w4.ownsRow w.heap.size 31 2 v' (bridge days (l.take (k + 1))).length (cellsS (bridge days (l.take (k + 1))))) := Lib.hid (by rw [HN.out]; exact hown')
        clear hown' hgrow
        go_wp2
        go_roundw
        case rel => exact ⟨k + 1, by omega, by go_num, HF, HE.out⟩
        case measure => simp [intOf]; omega
    · have e : l.take k = l := List.take_of_length_le (by omega)
      rw [e] at HO
      clear e
      go_wp2
      go_ret2
      exact ⟨⟨_, rfl, HO.out⟩, hb⟩

set_option maxHeartbeats 2000000 in
theorem Bridge_no (v : Value) (l : L) (n : Int) (hl : ¬ IsSet l ∨ n < 0) (w : World) (h : Spn w v l) : Calls Tryz.prog 24 #[v, .int .i64 n] w (Says (.tuple #[.slice none 0 0, .int .i64 2]) w) := by
  have hv := fun W (hW : Below w.heap.size w W) => Valid_any v l W (h.below hW (Nat.le_refl _))
  by_cases hs : IsSet l
  · rw [(vldB_iff l).2 hs] at hv
    have HV := Lib.hid hv
    obtain ⟨a, cap, rfl, -⟩ := h
    have hn : n < 0 := hl.resolve_left (fun e => e hs)
    clear hl hv hs
    go_enter Tryz.func24, Tryz.ntmps24
    go_wp2_with fail
    refine (HV.out _ (Below.refl _ _)).mono ?_
    rintro e w1 ⟨rfl, hb1⟩
    go_wp2
    go_ret2
    exact ⟨rfl, hb1⟩
  · rw [(vldB_not l).2 hs] at hv
    have HV := Lib.hid hv
    obtain ⟨a, cap, rfl, -⟩ := h
    clear hl hv hs
    go_enter Tryz.func24, Tryz.ntmps24
    go_wp2_with fail
    refine (HV.out _ (Below.refl _ _)).mono ?_
    rintro e w1 ⟨rfl, hb1⟩
    go_wp2
    go_ret2
    exact ⟨rfl, hb1⟩

end Go.Proofs.YtanlaejdibikiaaGreat
