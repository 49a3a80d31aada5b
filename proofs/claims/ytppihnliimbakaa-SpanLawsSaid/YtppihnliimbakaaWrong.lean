/-
'SpanWrong': slices of spans that are not sets are rejected.
-/
import Derived.Test.YtppihnliimbakaaCounts
namespace Go.Proofs.Ytppihnliimbakaa
open Go.RowKit Go.Shelf Sp

theorem Spn.kept {W W' : World} {row : Option Nat} {b off n c : Nat} {l : L} (h : Spn W (.slice (some ⟨b, off, none⟩) n c) l) (hg : W.grownBy W' row) (hne : some b ≠ row) : Spn W' (.slice (some ⟨b, off, none⟩) n c) l := by
  obtain ⟨a, cap, e, h1, h2, h⟩ := h
  refine ⟨a, cap, e, h1, h2, ?_⟩
  rcases h with h | ⟨b', off', rfl, hc⟩
  · exact .inl h
  · have hb : b = b' := by simp at e; exact e.1.1
    subst hb
    exact .inr ⟨b, off', rfl, fun j hj => ⟨hg.cell (hc j hj).1 hne, hg.cell (hc j hj).2 hne⟩⟩
theorem Bx_kept {T : TypeId} {W W' : World} {row : Option Nat} {B : Nat} {x y : Value} (h : Bx T W B x y) (hg : W.grownBy W' row) (hne : some B ≠ row) : Bx T W' B x y := (hg.block B h.lt hne).trans h
theorem spn_len {W : World} {a : Option Addr} {n c : Nat} {l : L} (_h : Hid (l.length = n)) (h : Spn W (.slice a n c) l) : Spn W (.slice a n c) l := h
theorem Valid_is {v : Value} {l : L} {r : Bool} {w : World} (hr : vldB l = r) (h : Spn w v l) : Calls Try.prog 19 #[v] w (Says (.bool r) w) := by
  have := Valid_any v l w h
  rwa [hr] at this
theorem own_empty (W : World) (base : Nat) (hb : base ≤ W.heap.size) : (W.alloc (.cells #[] 34)).ownsRow base 34 2 (.slice (some ⟨W.heap.size, 0, none⟩) 0 0) 0 [] :=
  World.ownsRow_made W #[] 0 hb (by unfold maxLen; omega) rfl
theorem cellsS_one (l : L) : ∀ u ∈ cellsS l, u.oneCell' = true := by
  intro u hu
  unfold cellsS at hu
  obtain ⟨s, -, hs⟩ := List.mem_flatMap.1 hu
  simp at hs
  rcases hs with rfl | rfl <;> rfl
theorem spn_cells {W : World} {b off n c : Nat} {l : L} (h : Spn W (.slice (some ⟨b, off, none⟩) n c) l) : ∀ j u, (cellsS l)[j]? = some u → W.cell? ((⟨b, off, none⟩ : Addr).add j) = some u := by
  intro j u hu
  have hj : j < l.length * 2 := by rw [← cellsS_length]; exact (List.getElem?_eq_some_iff.1 hu).1
  obtain ⟨b', off', e, -, hc⟩ := h.block (by intro e; rw [e] at hj; simp at hj)
  cases e
  rw [add_eq]
  obtain ⟨g1, g2⟩ := cellsS_get l (j / 2) (by omega)
  obtain ⟨c1, c2⟩ := hc (j / 2) (by omega)
  rcases Nat.mod_two_eq_zero_or_one j with e | e
  · rw [show j / 2 * 2 = j from by omega] at g1 c1
    rw [c1, ← g1, hu]
  · rw [show j / 2 * 2 + 1 = j from by omega] at g2
    rw [show off + j / 2 * 2 + 1 = off + j from by omega] at c2
    rw [c2, ← g2, hu]

/-- The six defects. -/
def defX (r x y : Int) : Int := if r = 0 then y + 1 else if r = 1 then y else if r = 2 then y - 1 else if r = 3 then -1 else if r = 4 then y + 1 else x
def defY (r y : Int) : Int := if r = 0 then y + 1 else if r = 1 then y + 1 else if r = 2 then y + 1 else if r = 3 then 2 else if r = 4 then 65537 else y
theorem def_bad {l : L} {x y r : Int} (h : IsSet (l ++ [(x, y)])) : ¬ IsSet (l ++ [(x, y)] ++ [(defX r x y, defY r y)]) := by
  intro hs
  have h1 := (chain_snoc.1 hs).2
  have h2 := (chain_snoc.1 h).2
  have h3 := Chain.lastTo_ge (chain_snoc.1 h).1
  rw [lastTo_snoc] at h1
  simp only [defX, defY] at h1
  simp only at h2
  split at h1 <;> (try split at h1) <;> (try split at h1) <;> (try split at h1) <;> (try split at h1) <;> simp_all <;> omega

set_option maxRecDepth 100000 in
set_option maxHeartbeats 40000000 in
theorem SpanWrong_walk (s : Value) (m : List Nat) (way : Int) (hway : 0 ≤ way ∧ way < 256) (w : World) (hm : Lm m) (h : Lim w s m) :
    Calls Try.prog 10 #[s, .int .u8 way] w (Says (.bool true) w) := by
  have HB := Lib.hid (Below.refl w.heap.size w)
  have HM := Lib.hid hm
  have HI := Lib.hid h
  obtain ⟨aa, cc, rfl, -⟩ := h
  obtain ⟨i0, hi, hz0, hz1, hz2⟩ := info_parts Try.infoS
  obtain ⟨wy0, wy1⟩ := hway
  clear hm
  go_enter Try.func10, Try.ntmps10
  go_wp2_with fail
  refine (awake_any _).mono ?_
  rintro e w1 ⟨rfl, hb⟩
  replace HB := Lib.hid (HB.out.trans (hb.mono HB.out.size))
  clear hb
  go_wp2_with fail
  refine (Built_any _ _ HM.out w1 (HI.out.below HB.out (Nat.le_refl _))).mono ?_
  rintro e w2 ⟨⟨vl, ll, rfl, hset, h60, hown⟩, hb⟩
  replace HB := Lib.hid (HB.out.trans (hb.mono HB.out.size))
  have HSl := Lib.hid hset
  have Hl := Lib.hid (Spn.of_owns hown (by omega))
  have HLl := Lib.hid h60
  clear hset hown h60
  clear hb
  obtain ⟨al, cl, rfl⟩ := spn_slice Hl.out
  by_cases hne : ll = []
  · subst hne
    go_wp2
    go_ret
    exact ⟨rfl, HB.out⟩
  · obtain ⟨l0, p, hl0⟩ : ∃ l0 p, ll = l0 ++ [p] := ⟨ll.dropLast, ll.getLast hne, (List.dropLast_concat_getLast hne).symm⟩
    obtain ⟨x, y⟩ := p
    have hlen : ll.length = l0.length + 1 := by rw [hl0]; simp
    obtain ⟨n0, hn0⟩ : ∃ n, n = l0.length := ⟨_, rfl⟩
    rw [← hn0] at hlen
    obtain ⟨bl, ol, rfl, hblw, hcl⟩ := Hl.out.block hne
    have h60 := HLl.out
    have hset := HSl.out
    rw [hl0] at hset
    have hxy := (chain_snoc.1 hset).2
    have hlo := Chain.lastTo_ge (chain_snoc.1 hset).1
    simp only at hxy
    obtain ⟨xy1, xy2, xy3⟩ := hxy
    have x0 : 0 ≤ x := by omega
    have HSET := Lib.hid hset
    rw [hlen] at Hl h60
    obtain ⟨c1, c2⟩ := hcl n0 (by omega)
    have eg : ll[n0]?.getD (0, 0) = (x, y) := by rw [hl0, hn0]; simp
    rw [eg] at c1 c2
    dsimp only at c1 c2
    have HL0 := Lib.hid hl0
    have HLEN := Lib.hid hlen
    have hsc := Hl.out
    obtain ⟨_, _, ec, hcap, -⟩ := hsc
    simp only [Value.slice.injEq] at ec
    obtain ⟨-, -, rfl⟩ := ec
    clear hne hn0 hcl eg hset xy1 hlo hl0
    rw [HLEN.out] at hcap ⊢
    clear hlen
    have q9 : ((n0 : Int) + 1 == 0) = false := by simp; omega
    by_cases hy : 65533 < y
    · go_wp2
      go_ret
      exact ⟨rfl, HB.out⟩
    · have hba := (Below.refl w2.heap.size w2).alloc (Nat.le_refl _) (.cells #[.int .i64 x, .int .i64 y] 34)
      have hbz := hba.alloc (by simp) (.cells #[] 34)
      have YP := Lib.hid ((Bx.new 34 w2 (.int .i64 x) (.int .i64 y)).alloc (.cells #[] 34))
      have ho := own_empty (w2.alloc (.cells #[.int .i64 x, .int .i64 y] 34)) (w2.heap.size + 1) (by simp)
      rw [World.size_alloc] at ho
      have HO := Lib.hid ho
      have HS2 := Lib.hid (spn_cells (Hl.out.below hbz (Nat.le_refl _)))
      have HB3 := Lib.hid (HB.out.trans (hbz.mono HB.out.size))
      have Hl3 := Lib.hid (Hl.out.below hbz (Nat.le_refl _))
      have hsz := HB.out.size
      clear hba hbz ho
      go_wp2_with (at_builtin; refine wpList_append_own _ rfl _ _ 22 rfl (w2.heap.size + 1) 34 i0 (.agg #[.int .i64 0, .int .i64 0]) 2 16 Try.underlying22 hi hz0 hz1 hz2 rfl (by decide) _ _ _ rfl HO.out ⟨bl, ol, none⟩ (n0 + 1) _ (cellsS ll) rfl (by rw [cellsS_length, HLEN.out]) HS2.out (cellsS_one ll) (by unfold maxLen; omega) (by omega) (by simp <;> omega) ?_; intro v4 w4 hown' hgrow _)
      have hgrow2 : World.grownBy _ w4 (some (w2.heap.size + 1)) := hgrow
      clear hgrow
      have YL := Lib.hid (YP.out.grown hgrow2 (by omega))
      have HB4 := Lib.hid (HB3.out.grown hgrow2 (by simp; omega) (fun k e => by have := Option.some.inj e; omega))
      have Hl4 := Lib.hid (Hl3.out.kept hgrow2 (fun e => by have := Option.some.inj e; omega))
      have HO4 : Hid (w4.ownsRow (w2.heap.size + 1) 34 2 v4 (n0 + 1) (cellsS ll)) := Lib.hid (by rw [Nat.zero_add] at hown'; exact hown')
      have zN : w2.heap.size < w4.heap.size := YL.out.lt
      obtain ⟨N, hN⟩ : ∃ N, w2.heap.size = N := ⟨_, rfl⟩
      rw [hN] at YL zN HO4 hsz hblw ⊢
      clear hgrow2 hown' HO HS2 YP HB3 Hl3 hN c1 c2 HB Hl
      obtain ⟨ρ, hρ⟩ : ∃ r, way.tmod 6 = r := ⟨_, rfl⟩
      have hr0 : 0 ≤ ρ := by rw [← hρ]; exact Int.tmod_nonneg _ wy0
      have hr6 : ρ < 6 := by rw [← hρ]; exact Int.tmod_lt_of_pos _ (by omega)
      have HBAD := Lib.hid (def_bad (r := ρ) HSET.out)
      rw [← HL0.out] at HBAD
      obtain ⟨y1, y2⟩ := YL.out.cells
      have hOd := HO4.out.drew
      have hLd := Hl4.out.below (Below.refl w4.heap.size w4).drew (Nat.le_refl _)
      have hBd := HB4.out.drew
      have HL5 := Lib.hid hLd
      have HB5 := Lib.hid hBd
      have HO5 := Lib.hid hOd
      clear hOd hLd hBd HO4 Hl4 HB4
      go_wp2_with fail
      have q21 : IntKind.i64.wrap (y + 1) = y + 1 := IntWalk.i64_in _ (by omega)
      have q22 : IntKind.i64.wrap (y - 1) = y - 1 := IntWalk.i64_in _ (by omega)
      refine wp_region_noPanic ?_
      refine wp_region_held_drew (S := (fun w' => w'.cell? ⟨N, 0, none⟩ = some (.int .i64 x) ∧ w'.cell? ⟨N, 1, none⟩ = some (.int .i64 y))) (by kernel_rfl) ⟨y1, y2⟩ (fun hR0 => ?_)
      change wpAnyH _ _ _ _ _ 38 #[false, false, false, false, false, false, false, false, false, false, false, false, false, false, false, false, false, false, false, false, false, false, false, false, false, false, false, false, false, false, false, false, false, false, false, false, false, false] _ _
      clear y1 y2
      refine wpAnyH_take (i := 0) (oi := { dst := some 44, op := Op.move (Operand.tmp 7), type := 22, pos := "outright.go:166", after := #[], guard := none }) (v := ?_) rfl (by kernel_rfl) (by kernel_rfl) (by kernel_rfl) (fun _ _ _ h => h) (Or.inl ⟨by rfl, ?_⟩) (by assumption) ?_
      rotate_left 1
      · (intro w hSw; (try dsimp only at hSw); go_simp <;> (with_reducible rfl))
      (try simp only [Act.put, List.setIfInBounds_toArray, List.set_cons_zero, List.set_cons_succ])
      refine wpAnyH_take (i := 1) (oi := { dst := some 45, op := Op.fieldAddr 34 (Operand.tmp 6) 1, type := 0, pos := "outright.go:166", after := #[], guard := none }) (v := ?_) rfl (by kernel_rfl) (by kernel_rfl) (by kernel_rfl) (fun _ _ _ h => h) (Or.inl ⟨by rfl, ?_⟩) (by assumption) ?_
      rotate_left 1
      · (intro w hSw; (try dsimp only at hSw); go_simp <;> (with_reducible rfl))
      (try simp only [Act.put, List.setIfInBounds_toArray, List.set_cons_zero, List.set_cons_succ])
      refine wpAnyH_take (i := 2) (oi := { dst := some 46, op := Op.load 3 (Operand.tmp 45), type := 3, pos := "outright.go:166", after := #[{ on := 1, ground := Ground.data }], guard := none }) (v := ?_) rfl (by kernel_rfl) (by kernel_rfl) (by kernel_rfl) (fun _ _ _ h => h) (Or.inl ⟨by rfl, ?_⟩) (by assumption) ?_
      rotate_left 1
      · (intro w hSw; (try dsimp only at hSw); go_simp <;> (with_reducible rfl))
      (try simp only [Act.put, List.setIfInBounds_toArray, List.set_cons_zero, List.set_cons_succ])
      refine wpAnyH_take (i := 3) (oi := { dst := some 47, op := Op.binOp BinOp.add 3 (Operand.tmp 46) (Operand.const (Value.int IntKind.i64 1)) 3, type := 3, pos := "outright.go:166", after := #[{ on := 2, ground := Ground.data }], guard := none }) (v := ?_) rfl (by kernel_rfl) (by kernel_rfl) (by kernel_rfl) (fun _ _ _ h => h) (Or.inl ⟨by rfl, ?_⟩) (by assumption) ?_
      rotate_left 1
      · (intro w hSw; (try dsimp only at hSw); go_simp <;> (with_reducible rfl))
      (try simp only [Act.put, List.setIfInBounds_toArray, List.set_cons_zero, List.set_cons_succ])
      refine wpAnyH_take (i := 4) (oi := { dst := some 48, op := Op.fieldAddr 34 (Operand.tmp 6) 1, type := 0, pos := "outright.go:166", after := #[], guard := none }) (v := ?_) rfl (by kernel_rfl) (by kernel_rfl) (by kernel_rfl) (fun _ _ _ h => h) (Or.inl ⟨by rfl, ?_⟩) (by assumption) ?_
      rotate_left 1
      · (intro w hSw; (try dsimp only at hSw); go_simp <;> (with_reducible rfl))
      (try simp only [Act.put, List.setIfInBounds_toArray, List.set_cons_zero, List.set_cons_succ])
      refine wpAnyH_take (i := 5) (oi := { dst := some 49, op := Op.load 3 (Operand.tmp 48), type := 3, pos := "outright.go:166", after := #[{ on := 4, ground := Ground.data }], guard := none }) (v := ?_) rfl (by kernel_rfl) (by kernel_rfl) (by kernel_rfl) (fun _ _ _ h => h) (Or.inl ⟨by rfl, ?_⟩) (by assumption) ?_
      rotate_left 1
      · (intro w hSw; (try dsimp only at hSw); go_simp <;> (with_reducible rfl))
      (try simp only [Act.put, List.setIfInBounds_toArray, List.set_cons_zero, List.set_cons_succ])
      refine wpAnyH_take (i := 6) (oi := { dst := some 50, op := Op.binOp BinOp.add 3 (Operand.tmp 49) (Operand.const (Value.int IntKind.i64 1)) 3, type := 3, pos := "outright.go:166", after := #[{ on := 5, ground := Ground.data }], guard := none }) (v := ?_) rfl (by kernel_rfl) (by kernel_rfl) (by kernel_rfl) (fun _ _ _ h => h) (Or.inl ⟨by rfl, ?_⟩) (by assumption) ?_
      rotate_left 1
      · (intro w hSw; (try dsimp only at hSw); go_simp <;> (with_reducible rfl))
      (try simp only [Act.put, List.setIfInBounds_toArray, List.set_cons_zero, List.set_cons_succ])
      refine wpAnyH_take (i := 8) (oi := { dst := some 52, op := Op.fieldAddr 34 (Operand.tmp 6) 1, type := 0, pos := "outright.go:166", after := #[], guard := none }) (v := ?_) rfl (by kernel_rfl) (by kernel_rfl) (by kernel_rfl) (fun _ _ _ h => h) (Or.inl ⟨by rfl, ?_⟩) (by assumption) ?_
      rotate_left 1
      · (intro w hSw; (try dsimp only at hSw); go_simp <;> (with_reducible rfl))
      (try simp only [Act.put, List.setIfInBounds_toArray, List.set_cons_zero, List.set_cons_succ])
      refine wpAnyH_take (i := 9) (oi := { dst := some 53, op := Op.load 3 (Operand.tmp 52), type := 3, pos := "outright.go:166", after := #[{ on := 8, ground := Ground.data }], guard := none }) (v := ?_) rfl (by kernel_rfl) (by kernel_rfl) (by kernel_rfl) (fun _ _ _ h => h) (Or.inl ⟨by rfl, ?_⟩) (by assumption) ?_
      rotate_left 1
      · (intro w hSw; (try dsimp only at hSw); go_simp <;> (with_reducible rfl))
      (try simp only [Act.put, List.setIfInBounds_toArray, List.set_cons_zero, List.set_cons_succ])
      refine wpAnyH_take (i := 10) (oi := { dst := some 54, op := Op.fieldAddr 34 (Operand.tmp 6) 1, type := 0, pos := "outright.go:166", after := #[], guard := none }) (v := ?_) rfl (by kernel_rfl) (by kernel_rfl) (by kernel_rfl) (fun _ _ _ h => h) (Or.inl ⟨by rfl, ?_⟩) (by assumption) ?_
      rotate_left 1
      · (intro w hSw; (try dsimp only at hSw); go_simp <;> (with_reducible rfl))
      (try simp only [Act.put, List.setIfInBounds_toArray, List.set_cons_zero, List.set_cons_succ])
      refine wpAnyH_take (i := 11) (oi := { dst := some 55, op := Op.load 3 (Operand.tmp 54), type := 3, pos := "outright.go:166", after := #[{ on := 10, ground := Ground.data }], guard := none }) (v := ?_) rfl (by kernel_rfl) (by kernel_rfl) (by kernel_rfl) (fun _ _ _ h => h) (Or.inl ⟨by rfl, ?_⟩) (by assumption) ?_
      rotate_left 1
      · (intro w hSw; (try dsimp only at hSw); go_simp <;> (with_reducible rfl))
      (try simp only [Act.put, List.setIfInBounds_toArray, List.set_cons_zero, List.set_cons_succ])
      refine wpAnyH_take (i := 12) (oi := { dst := some 56, op := Op.binOp BinOp.add 3 (Operand.tmp 55) (Operand.const (Value.int IntKind.i64 1)) 3, type := 3, pos := "outright.go:166", after := #[{ on := 11, ground := Ground.data }], guard := none }) (v := ?_) rfl (by kernel_rfl) (by kernel_rfl) (by kernel_rfl) (fun _ _ _ h => h) (Or.inl ⟨by rfl, ?_⟩) (by assumption) ?_
      rotate_left 1
      · (intro w hSw; (try dsimp only at hSw); go_simp <;> (with_reducible rfl))
      (try simp only [Act.put, List.setIfInBounds_toArray, List.set_cons_zero, List.set_cons_succ])
      refine wpAnyH_take (i := 14) (oi := { dst := some 58, op := Op.fieldAddr 34 (Operand.tmp 6) 1, type := 0, pos := "outright.go:166", after := #[], guard := none }) (v := ?_) rfl (by kernel_rfl) (by kernel_rfl) (by kernel_rfl) (fun _ _ _ h => h) (Or.inl ⟨by rfl, ?_⟩) (by assumption) ?_
      rotate_left 1
      · (intro w hSw; (try dsimp only at hSw); go_simp <;> (with_reducible rfl))
      (try simp only [Act.put, List.setIfInBounds_toArray, List.set_cons_zero, List.set_cons_succ])
      refine wpAnyH_take (i := 15) (oi := { dst := some 59, op := Op.load 3 (Operand.tmp 58), type := 3, pos := "outright.go:166", after := #[{ on := 14, ground := Ground.data }], guard := none }) (v := ?_) rfl (by kernel_rfl) (by kernel_rfl) (by kernel_rfl) (fun _ _ _ h => h) (Or.inl ⟨by rfl, ?_⟩) (by assumption) ?_
      rotate_left 1
      · (intro w hSw; (try dsimp only at hSw); go_simp <;> (with_reducible rfl))
      (try simp only [Act.put, List.setIfInBounds_toArray, List.set_cons_zero, List.set_cons_succ])
      refine wpAnyH_take (i := 16) (oi := { dst := some 60, op := Op.binOp BinOp.sub 3 (Operand.tmp 59) (Operand.const (Value.int IntKind.i64 1)) 3, type := 3, pos := "outright.go:166", after := #[{ on := 15, ground := Ground.data }], guard := none }) (v := ?_) rfl (by kernel_rfl) (by kernel_rfl) (by kernel_rfl) (fun _ _ _ h => h) (Or.inl ⟨by rfl, ?_⟩) (by assumption) ?_
      rotate_left 1
      · (intro w hSw; (try dsimp only at hSw); go_simp <;> (with_reducible rfl))
      (try simp only [Act.put, List.setIfInBounds_toArray, List.set_cons_zero, List.set_cons_succ])
      refine wpAnyH_take (i := 17) (oi := { dst := some 61, op := Op.fieldAddr 34 (Operand.tmp 6) 1, type := 0, pos := "outright.go:166", after := #[], guard := none }) (v := ?_) rfl (by kernel_rfl) (by kernel_rfl) (by kernel_rfl) (fun _ _ _ h => h) (Or.inl ⟨by rfl, ?_⟩) (by assumption) ?_
      rotate_left 1
      · (intro w hSw; (try dsimp only at hSw); go_simp <;> (with_reducible rfl))
      (try simp only [Act.put, List.setIfInBounds_toArray, List.set_cons_zero, List.set_cons_succ])
      refine wpAnyH_take (i := 18) (oi := { dst := some 62, op := Op.load 3 (Operand.tmp 61), type := 3, pos := "outright.go:166", after := #[{ on := 17, ground := Ground.data }], guard := none }) (v := ?_) rfl (by kernel_rfl) (by kernel_rfl) (by kernel_rfl) (fun _ _ _ h => h) (Or.inl ⟨by rfl, ?_⟩) (by assumption) ?_
      rotate_left 1
      · (intro w hSw; (try dsimp only at hSw); go_simp <;> (with_reducible rfl))
      (try simp only [Act.put, List.setIfInBounds_toArray, List.set_cons_zero, List.set_cons_succ])
      refine wpAnyH_take (i := 19) (oi := { dst := some 63, op := Op.binOp BinOp.add 3 (Operand.tmp 62) (Operand.const (Value.int IntKind.i64 1)) 3, type := 3, pos := "outright.go:166", after := #[{ on := 18, ground := Ground.data }], guard := none }) (v := ?_) rfl (by kernel_rfl) (by kernel_rfl) (by kernel_rfl) (fun _ _ _ h => h) (Or.inl ⟨by rfl, ?_⟩) (by assumption) ?_
      rotate_left 1
      · (intro w hSw; (try dsimp only at hSw); go_simp <;> (with_reducible rfl))
      (try simp only [Act.put, List.setIfInBounds_toArray, List.set_cons_zero, List.set_cons_succ])
      refine wpAnyH_take (i := 22) (oi := { dst := some 66, op := Op.fieldAddr 34 (Operand.tmp 6) 1, type := 0, pos := "outright.go:166", after := #[], guard := none }) (v := ?_) rfl (by kernel_rfl) (by kernel_rfl) (by kernel_rfl) (fun _ _ _ h => h) (Or.inl ⟨by rfl, ?_⟩) (by assumption) ?_
      rotate_left 1
      · (intro w hSw; (try dsimp only at hSw); go_simp <;> (with_reducible rfl))
      (try simp only [Act.put, List.setIfInBounds_toArray, List.set_cons_zero, List.set_cons_succ])
      refine wpAnyH_take (i := 23) (oi := { dst := some 67, op := Op.load 3 (Operand.tmp 66), type := 3, pos := "outright.go:166", after := #[{ on := 22, ground := Ground.data }], guard := none }) (v := ?_) rfl (by kernel_rfl) (by kernel_rfl) (by kernel_rfl) (fun _ _ _ h => h) (Or.inl ⟨by rfl, ?_⟩) (by assumption) ?_
      rotate_left 1
      · (intro w hSw; (try dsimp only at hSw); go_simp <;> (with_reducible rfl))
      (try simp only [Act.put, List.setIfInBounds_toArray, List.set_cons_zero, List.set_cons_succ])
      refine wpAnyH_take (i := 24) (oi := { dst := some 68, op := Op.binOp BinOp.add 3 (Operand.tmp 67) (Operand.const (Value.int IntKind.i64 1)) 3, type := 3, pos := "outright.go:166", after := #[{ on := 23, ground := Ground.data }], guard := none }) (v := ?_) rfl (by kernel_rfl) (by kernel_rfl) (by kernel_rfl) (fun _ _ _ h => h) (Or.inl ⟨by rfl, ?_⟩) (by assumption) ?_
      rotate_left 1
      · (intro w hSw; (try dsimp only at hSw); go_simp <;> (with_reducible rfl))
      (try simp only [Act.put, List.setIfInBounds_toArray, List.set_cons_zero, List.set_cons_succ])
      refine wpAnyH_take (i := 26) (oi := { dst := some 70, op := Op.fieldAddr 34 (Operand.tmp 6) 0, type := 0, pos := "outright.go:166", after := #[], guard := none }) (v := ?_) rfl (by kernel_rfl) (by kernel_rfl) (by kernel_rfl) (fun _ _ _ h => h) (Or.inl ⟨by rfl, ?_⟩) (by assumption) ?_
      rotate_left 1
      · (intro w hSw; (try dsimp only at hSw); go_simp <;> (with_reducible rfl))
      (try simp only [Act.put, List.setIfInBounds_toArray, List.set_cons_zero, List.set_cons_succ])
      refine wpAnyH_take (i := 27) (oi := { dst := some 71, op := Op.load 3 (Operand.tmp 70), type := 3, pos := "outright.go:166", after := #[{ on := 26, ground := Ground.data }], guard := none }) (v := ?_) rfl (by kernel_rfl) (by kernel_rfl) (by kernel_rfl) (fun _ _ _ h => h) (Or.inl ⟨by rfl, ?_⟩) (by assumption) ?_
      rotate_left 1
      · (intro w hSw; (try dsimp only at hSw); go_simp <;> (with_reducible rfl))
      (try simp only [Act.put, List.setIfInBounds_toArray, List.set_cons_zero, List.set_cons_succ])
      refine wpAnyH_take (i := 28) (oi := { dst := some 72, op := Op.fieldAddr 34 (Operand.tmp 6) 1, type := 0, pos := "outright.go:166", after := #[], guard := none }) (v := ?_) rfl (by kernel_rfl) (by kernel_rfl) (by kernel_rfl) (fun _ _ _ h => h) (Or.inl ⟨by rfl, ?_⟩) (by assumption) ?_
      rotate_left 1
      · (intro w hSw; (try dsimp only at hSw); go_simp <;> (with_reducible rfl))
      (try simp only [Act.put, List.setIfInBounds_toArray, List.set_cons_zero, List.set_cons_succ])
      refine wpAnyH_take (i := 29) (oi := { dst := some 73, op := Op.load 3 (Operand.tmp 72), type := 3, pos := "outright.go:166", after := #[{ on := 28, ground := Ground.data }], guard := none }) (v := ?_) rfl (by kernel_rfl) (by kernel_rfl) (by kernel_rfl) (fun _ _ _ h => h) (Or.inl ⟨by rfl, ?_⟩) (by assumption) ?_
      rotate_left 1
      · (intro w hSw; (try dsimp only at hSw); go_simp <;> (with_reducible rfl))
      (try simp only [Act.put, List.setIfInBounds_toArray, List.set_cons_zero, List.set_cons_succ])
      refine wpAnyH_take (i := 32) (oi := { dst := some 76, op := Op.move (Operand.tmp 1), type := 5, pos := "outright.go:166", after := #[], guard := none }) (v := ?_) rfl (by kernel_rfl) (by kernel_rfl) (by kernel_rfl) (fun _ _ _ h => h) (Or.inl ⟨by rfl, ?_⟩) (by assumption) ?_
      rotate_left 1
      · (intro w hSw; (try dsimp only at hSw); go_simp <;> (with_reducible rfl))
      (try simp only [Act.put, List.setIfInBounds_toArray, List.set_cons_zero, List.set_cons_succ])
      refine wpAnyH_take (i := 33) (oi := { dst := some 77, op := Op.binOp BinOp.rem 5 (Operand.tmp 76) (Operand.const (Value.int IntKind.u8 6)) 5, type := 5, pos := "outright.go:166", after := #[{ on := 32, ground := Ground.data }], guard := none }) (v := ?_) rfl (by kernel_rfl) (by kernel_rfl) (by kernel_rfl) (fun _ _ _ h => h) (Or.inl ⟨by rfl, ?_⟩) (by assumption) ?_
      rotate_left 1
      · (intro w hSw; (try dsimp only at hSw); go_simp <;> (with_reducible rfl))
      (try simp only [Act.put, List.setIfInBounds_toArray, List.set_cons_zero, List.set_cons_succ])
      refine wpAnyH_ready (rs := [7]) (by kernel_rfl) (by simp) ?_
      refine AllReadyH.cons (o := { dst := some 51, op := Op.call { callee := Callee.value (Operand.func 31), args := #[Operand.tmp 47, Operand.tmp 50], argTypes := #[3, 3] }, type := 34, pos := "outright.go:166", after := #[{ on := 3, ground := Ground.data }, { on := 6, ground := Ground.data }], guard := none }) rfl (fun K hK => ?_) AllReadyH.nil
      go_simp
      go_at_call 31; refine (to_any _ _ _).mono ?_; rintro e w6 ⟨rfl, hb6⟩; have z6 : N < w6.heap.size := Nat.lt_of_lt_of_le zN hb6.size
      (try go_wp2_with fail)
      refine hK.out _ _ (⟨(hb6.cell (p := ⟨N, 0, none⟩) zN).trans hR0.1, (hb6.cell (p := ⟨N, 1, none⟩) zN).trans hR0.2⟩) (fun hR1 => ?_)
      clear hK K hR0
      (try simp only [List.setIfInBounds_toArray, List.set_cons_zero, List.set_cons_succ])
      have HL6 := Lib.hid (HL5.out.below hb6 (Nat.le_refl _))
      have HB6 := Lib.hid (HB5.out.trans (hb6.mono HB5.out.size))
      have HO6 := Lib.hid (HO5.out.kept (grown_of_below hb6) (by cases v4.ownBlock <;> simp))
      have YL6 := Lib.hid (YL.out.ond hb6)
      clear hb6 HL5 HB5 HO5 YL
      refine wpAnyH_ready (rs := [13]) (by kernel_rfl) (by simp) ?_
      refine AllReadyH.cons (o := { dst := some 57, op := Op.call { callee := Callee.value (Operand.func 31), args := #[Operand.tmp 53, Operand.tmp 56], argTypes := #[3, 3] }, type := 34, pos := "outright.go:166", after := #[{ on := 9, ground := Ground.data }, { on := 12, ground := Ground.data }, { on := 7, ground := Ground.chain }], guard := none }) rfl (fun K hK => ?_) AllReadyH.nil
      go_simp
      go_at_call 31; refine (to_any _ _ _).mono ?_; rintro e w7 ⟨rfl, hb7⟩; have z7 : N < w7.heap.size := Nat.lt_of_lt_of_le z6 hb7.size
      (try go_wp2_with fail)
      refine hK.out _ _ (⟨(hb7.cell (p := ⟨N, 0, none⟩) z6).trans hR1.1, (hb7.cell (p := ⟨N, 1, none⟩) z6).trans hR1.2⟩) (fun hR2 => ?_)
      clear hK K hR1
      (try simp only [List.setIfInBounds_toArray, List.set_cons_zero, List.set_cons_succ])
      have HL7 := Lib.hid (HL6.out.below hb7 (Nat.le_refl _))
      have HB7 := Lib.hid (HB6.out.trans (hb7.mono HB6.out.size))
      have HO7 := Lib.hid (HO6.out.kept (grown_of_below hb7) (by cases v4.ownBlock <;> simp))
      have YL7 := Lib.hid (YL6.out.on hb7)
      clear hb7 HL6 HB6 HO6 YL6
      refine wpAnyH_ready (rs := [20]) (by kernel_rfl) (by simp) ?_
      refine AllReadyH.cons (o := { dst := some 64, op := Op.call { callee := Callee.value (Operand.func 31), args := #[Operand.tmp 60, Operand.tmp 63], argTypes := #[3, 3] }, type := 34, pos := "outright.go:166", after := #[{ on := 16, ground := Ground.data }, { on := 19, ground := Ground.data }, { on := 13, ground := Ground.chain }], guard := none }) rfl (fun K hK => ?_) AllReadyH.nil
      go_simp
      go_at_call 31; refine (to_any _ _ _).mono ?_; rintro e w8 ⟨rfl, hb8⟩; have z8 : N < w8.heap.size := Nat.lt_of_lt_of_le z7 hb8.size
      (try go_wp2_with fail)
      refine hK.out _ _ (⟨(hb8.cell (p := ⟨N, 0, none⟩) z7).trans hR2.1, (hb8.cell (p := ⟨N, 1, none⟩) z7).trans hR2.2⟩) (fun hR3 => ?_)
      clear hK K hR2
      (try simp only [List.setIfInBounds_toArray, List.set_cons_zero, List.set_cons_succ])
      have HL8 := Lib.hid (HL7.out.below hb8 (Nat.le_refl _))
      have HB8 := Lib.hid (HB7.out.trans (hb8.mono HB7.out.size))
      have HO8 := Lib.hid (HO7.out.kept (grown_of_below hb8) (by cases v4.ownBlock <;> simp))
      have YL8 := Lib.hid (YL7.out.on hb8)
      clear hb8 HL7 HB7 HO7 YL7
      refine wpAnyH_ready (rs := [21]) (by kernel_rfl) (by simp) ?_
      refine AllReadyH.cons (o := { dst := some 65, op := Op.call { callee := Callee.value (Operand.func 31), args := #[Operand.const (Value.int IntKind.i64 (-1)), Operand.const (Value.int IntKind.i64 2)], argTypes := #[3, 3] }, type := 34, pos := "outright.go:166", after := #[{ on := 20, ground := Ground.chain }], guard := none }) rfl (fun K hK => ?_) AllReadyH.nil
      go_simp
      go_at_call 31; refine (to_any _ _ _).mono ?_; rintro e w9 ⟨rfl, hb9⟩; have z9 : N < w9.heap.size := Nat.lt_of_lt_of_le z8 hb9.size
      (try go_wp2_with fail)
      refine hK.out _ _ (⟨(hb9.cell (p := ⟨N, 0, none⟩) z8).trans hR3.1, (hb9.cell (p := ⟨N, 1, none⟩) z8).trans hR3.2⟩) (fun hR4 => ?_)
      clear hK K hR3
      (try simp only [List.setIfInBounds_toArray, List.set_cons_zero, List.set_cons_succ])
      have HL9 := Lib.hid (HL8.out.below hb9 (Nat.le_refl _))
      have HB9 := Lib.hid (HB8.out.trans (hb9.mono HB8.out.size))
      have HO9 := Lib.hid (HO8.out.kept (grown_of_below hb9) (by cases v4.ownBlock <;> simp))
      have YL9 := Lib.hid (YL8.out.on hb9)
      clear hb9 HL8 HB8 HO8 YL8
      refine wpAnyH_ready (rs := [25]) (by kernel_rfl) (by simp) ?_
      refine AllReadyH.cons (o := { dst := some 69, op := Op.call { callee := Callee.value (Operand.func 31), args := #[Operand.tmp 68, Operand.const (Value.int IntKind.i64 65537)], argTypes := #[3, 3] }, type := 34, pos := "outright.go:166", after := #[{ on := 24, ground := Ground.data }, { on := 21, ground := Ground.chain }], guard := none }) rfl (fun K hK => ?_) AllReadyH.nil
      go_simp
      go_at_call 31; refine (to_any _ _ _).mono ?_; rintro e w10 ⟨rfl, hb10⟩; have z10 : N < w10.heap.size := Nat.lt_of_lt_of_le z9 hb10.size
      (try go_wp2_with fail)
      refine hK.out _ _ (⟨(hb10.cell (p := ⟨N, 0, none⟩) z9).trans hR4.1, (hb10.cell (p := ⟨N, 1, none⟩) z9).trans hR4.2⟩) (fun hR5 => ?_)
      clear hK K hR4
      (try simp only [List.setIfInBounds_toArray, List.set_cons_zero, List.set_cons_succ])
      have HL10 := Lib.hid (HL9.out.below hb10 (Nat.le_refl _))
      have HB10 := Lib.hid (HB9.out.trans (hb10.mono HB9.out.size))
      have HO10 := Lib.hid (HO9.out.kept (grown_of_below hb10) (by cases v4.ownBlock <;> simp))
      have YL10 := Lib.hid (YL9.out.on hb10)
      clear hb10 HL9 HB9 HO9 YL9
      refine wpAnyH_ready (rs := [30]) (by kernel_rfl) (by simp) ?_
      refine AllReadyH.cons (o := { dst := some 74, op := Op.call { callee := Callee.value (Operand.func 31), args := #[Operand.tmp 71, Operand.tmp 73], argTypes := #[3, 3] }, type := 34, pos := "outright.go:166", after := #[{ on := 27, ground := Ground.data }, { on := 29, ground := Ground.data }, { on := 25, ground := Ground.chain }], guard := none }) rfl (fun K hK => ?_) AllReadyH.nil
      go_simp
      go_at_call 31; refine (to_any _ _ _).mono ?_; rintro e w11 ⟨rfl, hb11⟩; have z11 : N < w11.heap.size := Nat.lt_of_lt_of_le z10 hb11.size
      (try go_wp2_with fail)
      refine hK.out _ _ (⟨(hb11.cell (p := ⟨N, 0, none⟩) z10).trans hR5.1, (hb11.cell (p := ⟨N, 1, none⟩) z10).trans hR5.2⟩) (fun hR6 => ?_)
      clear hK K hR5
      (try simp only [List.setIfInBounds_toArray, List.set_cons_zero, List.set_cons_succ])
      have HL11 := Lib.hid (HL10.out.below hb11 (Nat.le_refl _))
      have HB11 := Lib.hid (HB10.out.trans (hb11.mono HB10.out.size))
      have HO11 := Lib.hid (HO10.out.kept (grown_of_below hb11) (by cases v4.ownBlock <;> simp))
      have YL11 := Lib.hid (YL10.out.on hb11)
      clear hb11 HL10 HB10 HO10 YL10
      refine wpAnyH_take (i := 31) (oi := { dst := some 75, op := Op.build 51 #[(0, Operand.tmp 51), (1, Operand.tmp 57), (2, Operand.tmp 64), (3, Operand.tmp 65), (4, Operand.tmp 69), (5, Operand.tmp 74)], type := 51, pos := "outright.go:166", after := #[{ on := 7, ground := Ground.data }, { on := 13, ground := Ground.data }, { on := 20, ground := Ground.data }, { on := 21, ground := Ground.data }, { on := 25, ground := Ground.data }, { on := 30, ground := Ground.data }], guard := none }) (v := ?_) rfl (by kernel_rfl) (by kernel_rfl) (by kernel_rfl) (fun _ _ _ h => h) (Or.inl ⟨by rfl, ?_⟩) (by assumption) ?_
      rotate_left 1
      · (intro w hSw; (try dsimp only at hSw); go_simp <;> (with_reducible rfl))
      (try simp only [Act.put, List.setIfInBounds_toArray, List.set_cons_zero, List.set_cons_succ])
      have hc6 : ρ = 0 ∨ ρ = 1 ∨ ρ = 2 ∨ ρ = 3 ∨ ρ = 4 ∨ ρ = 5 := by omega
      refine wpAnyH_take (i := 34) (oi := { dst := some 78, op := Op.index 51 (Operand.tmp 75) (Operand.tmp 77), type := 34, pos := "outright.go:166", after := #[{ on := 31, ground := Ground.data }, { on := 33, ground := Ground.data }], guard := none }) (v := .agg #[.int .i64 (defX ρ x y), .int .i64 (defY ρ y)]) rfl (by kernel_rfl) (by kernel_rfl) (by kernel_rfl) (fun _ _ _ h => h) (Or.inl ⟨by rfl, ?_⟩) (by assumption) ?_
      · (intro w hSw; (try dsimp only at hSw); (rcases hc6 with h | h | h | h | h | h <;> (subst h; go_simp; simp [defX, defY]; rfl)))
      (try simp only [Act.put, List.setIfInBounds_toArray, List.set_cons_zero, List.set_cons_succ])
      generalize defX ρ x y = sx at HBAD ⊢
      generalize defY ρ y = sy at HBAD ⊢
      clear hc6 hr0 hr6 hρ
      obtain ⟨lbd, hlbd⟩ : ∃ z, z = ll ++ [(sx, sy)] := ⟨_, rfl⟩
      have HLBD := Lib.hid hlbd
      rw [← hlbd] at HBAD
      clear hlbd
      have HLa := Lib.hid (HL11.out.below ((Below.refl w11.heap.size w11).alloc (Nat.le_refl _) (.cells #[.int .i64 sx, .int .i64 sy] 34)) (Nat.le_refl _))
      have HBa := Lib.hid (HB11.out.alloc HB11.out.size (.cells #[.int .i64 sx, .int .i64 sy] 34))
      have HOa := Lib.hid (HO11.out.alloc (.cells #[.int .i64 sx, .int .i64 sy] 34))
      have YLa := Lib.hid (YL11.out.alloc (.cells #[.int .i64 sx, .int .i64 sy] 34))
      refine wpAnyH_ready (rs := [35]) (by kernel_rfl) (by simp) ?_
      refine AllReadyH.cons (o := { dst := some 79, op := Op.buildSlice 22 1 #[(0, Operand.tmp 78)], type := 22, pos := "outright.go:166", after := #[{ on := 34, ground := Ground.data }], guard := none }) rfl (fun K hK => ?_) AllReadyH.nil
      go_simp
      refine hK.out _ _ (YLa.out.cells) (fun hR7 => ?_)
      clear hK K hR6
      (try simp only [List.setIfInBounds_toArray, List.set_cons_zero, List.set_cons_succ])
      refine wpAnyH_ready (rs := [36]) (by kernel_rfl) (by simp) ?_
      refine AllReadyH.cons (o := { dst := some 80, op := Op.call { callee := Callee.builtin Builtin.append, args := #[Operand.tmp 44, Operand.tmp 79], argTypes := #[22, 22] }, type := 22, pos := "outright.go:166", after := #[{ on := 0, ground := Ground.data }, { on := 35, ground := Ground.data }, { on := 30, ground := Ground.chain }], guard := none }) rfl (fun K hK => ?_) AllReadyH.nil
      rw [if_pos (by rfl)]; refine wp_append_own _ _ _ 22 rfl (N + 1) 34 i0 (.agg #[.int .i64 0, .int .i64 0]) 2 16 Try.underlying22 hi hz0 hz1 hz2 rfl (by decide) _ _ _ rfl HOa.out ⟨w11.heap.size, 0, none⟩ 1 1 [.int .i64 sx, .int .i64 sy] rfl rfl (cell_two_new _ _ _ _) (by simp [Value.oneCell']) (by unfold maxLen; omega) (by omega) (by simp; omega) ?_; intro v12 w12 hown hgrow _; have YLb := Lib.hid (Bx_kept YLa.out hgrow (fun e => by have := (HO11.out.lt N e.symm).1; omega)); have HBb := Lib.hid (HBa.out.grown hgrow (by simp; have := HB11.out.size; omega) (fun k e => by have := (HO11.out.lt k e).1; omega)); have HLb := Lib.hid (HLa.out.kept hgrow (fun e => by have := (HO11.out.lt bl e.symm).1; omega)); have HOb : Hid (Spn w12 v12 lbd) := Lib.hid (by rw [HLBD.out]; exact Spn.of_owns (base := N + 1) (n := n0 + 1 + 1) (by rw [cellsS_append]; exact hown) (by simp [HLEN.out]; omega)); clear hown hgrow HLa HBa HOa YLa HL11 HB11 HO11 YL11
      refine hK.out _ _ (YLb.out.cells) (fun hR8 => ?_)
      clear hK K hR7
      (try simp only [Act.put, List.setIfInBounds_toArray, List.set_cons_zero, List.set_cons_succ])
      refine wpAnyH_take (i := 37) (oi := { dst := some 7, op := Op.assign (Operand.tmp 80), type := 22, pos := "outright.go:166", after := #[{ on := 36, ground := Ground.data }, { on := 36, ground := Ground.chain }, { on := 0, ground := Ground.phase }, { on := 1, ground := Ground.phase }, { on := 2, ground := Ground.phase }, { on := 3, ground := Ground.phase }, { on := 4, ground := Ground.phase }, { on := 5, ground := Ground.phase }, { on := 6, ground := Ground.phase }, { on := 7, ground := Ground.phase }, { on := 8, ground := Ground.phase }, { on := 9, ground := Ground.phase }, { on := 10, ground := Ground.phase }, { on := 11, ground := Ground.phase }, { on := 12, ground := Ground.phase }, { on := 13, ground := Ground.phase }, { on := 14, ground := Ground.phase }, { on := 15, ground := Ground.phase }, { on := 16, ground := Ground.phase }, { on := 17, ground := Ground.phase }, { on := 18, ground := Ground.phase }, { on := 19, ground := Ground.phase }, { on := 20, ground := Ground.phase }, { on := 21, ground := Ground.phase }, { on := 22, ground := Ground.phase }, { on := 23, ground := Ground.phase }, { on := 24, ground := Ground.phase }, { on := 25, ground := Ground.phase }, { on := 26, ground := Ground.phase }, { on := 27, ground := Ground.phase }, { on := 28, ground := Ground.phase }, { on := 29, ground := Ground.phase }, { on := 30, ground := Ground.phase }, { on := 31, ground := Ground.phase }, { on := 32, ground := Ground.phase }, { on := 33, ground := Ground.phase }, { on := 34, ground := Ground.phase }, { on := 35, ground := Ground.phase }, { on := 36, ground := Ground.phase }], guard := none }) (v := ?_) rfl (by kernel_rfl) (by kernel_rfl) (by kernel_rfl) (fun _ _ _ h => h) (Or.inl ⟨by rfl, ?_⟩) (by assumption) ?_
      rotate_left 1
      · (intro w hSw; (try dsimp only at hSw); go_simp <;> (with_reducible rfl))
      (try simp only [Act.put, List.setIfInBounds_toArray, List.set_cons_zero, List.set_cons_succ])
      refine wpAnyH_done (by kernel_rfl) ?_ _
      refine NoPanic.normal ?_
      clear hR8
      have HB := HBb
      have Hl := HLb
      have Hbad := HOb
      have YN := YLb
      clear HBb HLb HOb YLb q21 q22
      obtain ⟨ab, cb, rfl⟩ := spn_slice Hbad.out
      go_wp2_with fail
      refine (Union_no _ _ _ _ (fun e => HBAD.out e.1) _ Hbad.out Hl.out).mono ?_
      rintro e w13 ⟨rfl, hb⟩
      replace Hl := Lib.hid (Hl.out.below hb (Nat.le_refl _))
      replace Hbad := Lib.hid (Hbad.out.below hb (Nat.le_refl _))
      replace YN := Lib.hid (YN.out.on hb)
      replace HB := Lib.hid (HB.out.trans (hb.mono HB.out.size))
      clear hb
      go_wp2_with fail
      refine (Meet_no _ _ _ _ (fun e => HBAD.out e.2) _ Hl.out Hbad.out).mono ?_
      rintro e w14 ⟨rfl, hb⟩
      replace Hl := Lib.hid (Hl.out.below hb (Nat.le_refl _))
      replace Hbad := Lib.hid (Hbad.out.below hb (Nat.le_refl _))
      replace YN := Lib.hid (YN.out.on hb)
      replace HB := Lib.hid (HB.out.trans (hb.mono HB.out.size))
      clear hb
      go_wp2_with fail
      refine (Minus_no _ _ _ _ (fun e => HBAD.out e.1) _ Hbad.out Hbad.out).mono ?_
      rintro e w15 ⟨rfl, hb⟩
      replace Hl := Lib.hid (Hl.out.below hb (Nat.le_refl _))
      replace Hbad := Lib.hid (Hbad.out.below hb (Nat.le_refl _))
      replace YN := Lib.hid (YN.out.on hb)
      replace HB := Lib.hid (HB.out.trans (hb.mono HB.out.size))
      clear hb
      go_wp2_with fail
      refine (Bridge_no _ _ 3 (.inl HBAD.out) _ Hbad.out).mono ?_
      rintro e w16 ⟨rfl, hb⟩
      replace Hl := Lib.hid (Hl.out.below hb (Nat.le_refl _))
      replace Hbad := Lib.hid (Hbad.out.below hb (Nat.le_refl _))
      replace YN := Lib.hid (YN.out.on hb)
      replace HB := Lib.hid (HB.out.trans (hb.mono HB.out.size))
      clear hb
      go_wp2_with fail
      refine (Nth_no _ _ 0 (.inl HBAD.out) _ Hbad.out).mono ?_
      rintro e w17 ⟨rfl, hb⟩
      replace Hl := Lib.hid (Hl.out.below hb (Nat.le_refl _))
      replace Hbad := Lib.hid (Hbad.out.below hb (Nat.le_refl _))
      replace YN := Lib.hid (YN.out.on hb)
      replace HB := Lib.hid (HB.out.trans (hb.mono HB.out.size))
      clear hb
      go_wp2_with fail
      refine (Valid_is ((vldB_not _).2 HBAD.out) Hbad.out).mono ?_
      rintro e w18 ⟨rfl, hb⟩
      replace Hl := Lib.hid (Hl.out.below hb (Nat.le_refl _))
      replace Hbad := Lib.hid (Hbad.out.below hb (Nat.le_refl _))
      replace YN := Lib.hid (YN.out.on hb)
      replace HB := Lib.hid (HB.out.trans (hb.mono HB.out.size))
      clear hb
      go_wp2_with fail
      refine (Valid_is ((vldB_iff _).2 HSl.out) Hl.out).mono ?_
      rintro e w19 ⟨rfl, hb⟩
      replace Hl := Lib.hid (Hl.out.below hb (Nat.le_refl _))
      replace Hbad := Lib.hid (Hbad.out.below hb (Nat.le_refl _))
      replace YN := Lib.hid (YN.out.on hb)
      replace HB := Lib.hid (HB.out.trans (hb.mono HB.out.size))
      clear hb
      obtain ⟨y1, y2⟩ := YN.out.cells
      go_wp2_with fail
      refine (Has_no _ _ x HBAD.out _ Hbad.out).mono ?_
      rintro e w20 ⟨rfl, hb⟩
      replace Hl := Lib.hid (Hl.out.below hb (Nat.le_refl _))
      replace Hbad := Lib.hid (Hbad.out.below hb (Nat.le_refl _))
      replace YN := Lib.hid (YN.out.on hb)
      replace HB := Lib.hid (HB.out.trans (hb.mono HB.out.size))
      clear hb
      clear y1 y2
      go_wp2_with fail
      refine (Within_no _ _ _ _ (fun e => HBAD.out e.1) _ Hbad.out Hl.out).mono ?_
      rintro e w21 ⟨rfl, hb⟩
      replace Hl := Lib.hid (Hl.out.below hb (Nat.le_refl _))
      replace Hbad := Lib.hid (Hbad.out.below hb (Nat.le_refl _))
      replace YN := Lib.hid (YN.out.on hb)
      replace HB := Lib.hid (HB.out.trans (hb.mono HB.out.size))
      clear hb
      go_wp2_with fail
      refine (Within_no _ _ _ _ (fun e => HBAD.out e.2) _ Hl.out Hbad.out).mono ?_
      rintro e w22 ⟨rfl, hb⟩
      replace Hl := Lib.hid (Hl.out.below hb (Nat.le_refl _))
      replace Hbad := Lib.hid (Hbad.out.below hb (Nat.le_refl _))
      replace YN := Lib.hid (YN.out.on hb)
      replace HB := Lib.hid (HB.out.trans (hb.mono HB.out.size))
      clear hb
      go_wp2_with fail
      refine (Days_no _ _ HBAD.out _ Hbad.out).mono ?_
      rintro e w23 ⟨rfl, hb⟩
      replace Hl := Lib.hid (Hl.out.below hb (Nat.le_refl _))
      replace Hbad := Lib.hid (Hbad.out.below hb (Nat.le_refl _))
      replace YN := Lib.hid (YN.out.on hb)
      replace HB := Lib.hid (HB.out.trans (hb.mono HB.out.size))
      clear hb
      obtain ⟨y1, y2⟩ := YN.out.cells
      go_wp2_with fail
      refine (Before_no _ _ y HBAD.out _ Hbad.out).mono ?_
      rintro e w24 ⟨rfl, hb⟩
      replace Hl := Lib.hid (Hl.out.below hb (Nat.le_refl _))
      replace Hbad := Lib.hid (Hbad.out.below hb (Nat.le_refl _))
      replace YN := Lib.hid (YN.out.on hb)
      replace HB := Lib.hid (HB.out.trans (hb.mono HB.out.size))
      clear hb
      go_wp2
      go_ret
      exact ⟨rfl, HB.out⟩

end Go.Proofs.Ytppihnliimbakaa
