/-
flatSpans of three rows.
-/
import Derived.Test.YtanlaejdibikiaaGreatFsA
namespace Go.Proofs.YtanlaejdibikiaaGreat
open Go.RowKit Go.Shelf Sp

/-- What is read of the lengthened rows. -/
theorem read_ext {N L Q k : Nat} {W W' : World} {Z : List Value} {base : Nat} {Ak : Option Addr} {Ck m : Nat} {g : Value} {l : Sp.L} (hz : W.ownsRow base 22 1 (.slice (some ⟨Q, 0, none⟩) 3 3) 3 Z) (hk : k < 3) (hg : Z[k]? = some g) (h : Gat N L W Ak Ck g m l) (hm : 0 < m) (hb : Below W.heap.size W W') :
    ∃ b c, W'.cell? ⟨Q, k, none⟩ = some (.slice (some ⟨b, 0, none⟩) m c) ∧ b < W.heap.size ∧ Q < W.heap.size ∧ m ≤ c ∧ ∀ t, t < m → W'.cell? ⟨b, t * 2, none⟩ = some (.int .i64 (l[t]?.getD (0, 0)).1) ∧ W'.cell? ⟨b, t * 2 + 1, none⟩ = some (.int .i64 (l[t]?.getD (0, 0)).2) := by
  have hlm : l.length = m := by have := h.1.1; rw [cellsS_length] at this; omega
  have hQ := (hz.lt Q rfl).2
  have cq := (hb.cell (p := ⟨Q, k, none⟩) hQ).trans ((hz.cellAt k (by omega)).trans hg)
  obtain ⟨b, c, rfl, hmc⟩ : ∃ b c, g = .slice (some ⟨b, 0, none⟩) m c ∧ m ≤ c := by
    rcases h.1.2 with ⟨_, h0⟩ | ⟨b, c, cur, e, _, _, hc, _⟩
    · omega
    · exact ⟨b, c, e, hc⟩
  have hbl := (h.1.lt b rfl).2
  refine ⟨b, c, cq, hbl, hQ, hmc, fun t ht => ?_⟩
  obtain ⟨x1, x2⟩ := cellsS_get l t (by omega)
  exact ⟨(hb.cell (p := ⟨b, t * 2, none⟩) hbl).trans ((h.1.cellAt (t * 2) (by omega)).trans x1), (hb.cell (p := ⟨b, t * 2 + 1, none⟩) hbl).trans ((h.1.cellAt (t * 2 + 1) (by omega)).trans x2)⟩
/-- What is read of the rows. -/
theorem fs_read {N k : Nat} {W0 W W' : World} {A : Nat → Option Addr} {n C : Nat → Nat} {R : Nat → Sp.L} (h : Fs N W0 W A n C R) (hk : k < 3) (hn : 0 < n k) (hb : Below W.heap.size W W') :
    ∃ g, A k = some ⟨g, 0, none⟩ ∧ g < W.heap.size ∧ n k ≤ C k ∧ ∀ t, t < n k → W'.cell? ⟨g, t * 2, none⟩ = some (.int .i64 ((R k)[t]?.getD (0, 0)).1) ∧ W'.cell? ⟨g, t * 2 + 1, none⟩ = some (.int .i64 ((R k)[t]?.getD (0, 0)).2) := by
  obtain ⟨g, hg, hg0, hc⟩ := h.addr hk hn
  obtain ⟨hl, hr⟩ := h.row k hk
  rw [hg] at hr
  have hgl := (hr.lt g rfl).2
  refine ⟨g, hg, hgl, hc, fun t ht => ?_⟩
  obtain ⟨x1, x2⟩ := cellsS_get (R k) t (by omega)
  exact ⟨(hb.cell (p := ⟨g, t * 2, none⟩) hgl).trans ((hr.cellAt (t * 2) (by omega)).trans x1), (hb.cell (p := ⟨g, t * 2 + 1, none⟩) hgl).trans ((hr.cellAt (t * 2 + 1) (by omega)).trans x2)⟩
theorem Gat.same {N L : Nat} {W W' : World} {Ak : Option Addr} {Ck : Nat} {g : Value} {m : Nat} {l : Sp.L} (h : Gat N L W Ak Ck g m l) (e : ∀ b, g.ownBlock = some b → b < W.heap.size → W'.heap[b]? = W.heap[b]?) : Gat N L W' Ak Ck g m l :=
  ⟨own_same h.1 (fun b hb => e b hb (h.1.lt b hb).2), h.2.imp id (fun hat => own_same hat (fun b hb => e b hb (h.1.lt b hb).2))⟩
theorem Gat.on {N L : Nat} {W W' : World} {Ak : Option Addr} {Ck : Nat} {g : Value} {m : Nat} {l : Sp.L} (h : Gat N L W Ak Ck g m l) (hb : Below W.heap.size W W') : Gat N L W' Ak Ck g m l := h.same (fun b _ hlt => hb.block b hlt)

theorem spans_made' (n : Nat) : (madeCells (Value.agg #[.int .i64 0, .int .i64 0]).cells (n * 2)).toList = cellsS (List.replicate n (0, 0)) := by
  have e : (Value.agg #[.int .i64 0, .int .i64 0]).cells = #[.int .i64 0, .int .i64 0] := by simp [Value.cells]
  rw [e]
  refine List.ext_getElem? fun i => ?_
  rcases Nat.lt_or_ge i (n * 2) with h | h
  · obtain ⟨j, hj⟩ : ∃ j, i = j * 2 ∨ i = j * 2 + 1 := ⟨i / 2, by omega⟩
    obtain ⟨x1, x2⟩ := cellsS_get (List.replicate n (0, 0)) j (by simp; omega)
    have hr : (List.replicate n ((0 : Int), (0 : Int)))[j]?.getD (0, 0) = (0, 0) := by
      rw [List.getElem?_replicate]; split <;> rfl
    rw [hr] at x1 x2
    rcases hj with rfl | rfl
    · rw [x1]; simp [madeCells, h]
    · rw [x2]; simp [madeCells, h]
  · rw [List.getElem?_eq_none (by simp [madeCells]; omega), List.getElem?_eq_none (by rw [cellsS_length]; simp; omega)]
theorem spans_made : (madeCells (Value.agg #[.int .i64 0, .int .i64 0]).cells (64 * 2)).toList = cellsS (List.replicate 64 (0, 0)) := spans_made' 64

set_option maxRecDepth 100000 in
set_option maxHeartbeats 16000000 in
theorem flats_gen (N : Nat) (W0 : World) (G cap : Nat) (A : Nat → Option Addr) (n C : Nat → Nat) (R0 : Nat → L) (hF : Fs N W0 W0 A n C R0) (hG : G < W0.heap.size) (hGn : ∀ k, k < 3 → (Value.slice (A k) (n k) (C k)).ownBlock ≠ some G)
    (hc : ∀ k, k < 3 → W0.cell? ⟨G, k, none⟩ = some (.slice (A k) (n k) (C k))) (hn : ∀ k, k < 3 → n k ≤ 1000) (hN : N ≤ W0.heap.size) :
    Calls Tryz.prog 64 #[.slice (some ⟨G, 0, none⟩) 3 cap] W0 fun e W' => e = .returned (.bool true) ∧ Below N W0 W' ∧ W0.heap.size ≤ W'.heap.size ∧ ∀ b, b < W0.heap.size → (∀ k, k < 3 → (Value.slice (A k) (n k) (C k)).ownBlock ≠ some b) → W'.heap[b]? = W0.heap[b]? := by
  have HM := Lib.hid (fun (k t : Nat) (h1 : k < 3) (h2 : t ≤ 2000) W => markSpanW_any k t (by omega) (by omega) W)
  have HC := Lib.hid hc
  have HGN := Lib.hid hGn
  have HNN := Lib.hid hn
  have HF := Lib.hid hF
  clear hc hGn hF
  obtain ⟨i0, hi, hz0, hz1, hz2⟩ := info_parts Tryz.infoS
  obtain ⟨i1, hi1, hy0, hy1, hy2⟩ := info_parts Tryz.infoSpansL
  go_enter Tryz.func64, Tryz.ntmps64
  go_wp2
  go_loopw [3] (fun i wr => ∃ (k : Nat) (R : Nat → L), k ≤ 3 ∧ i = .int .i64 k ∧ Hid (Fs N W0 wr A n C R) ∧ Hid (∀ j, j < k → R j = mkR j (n j))) (fun i _ => 3 - (intOf i).toNat)
  case atStart => exact ⟨0, R0, by omega, rfl, HF, Lib.hid (fun j hj => by omega)⟩
  case round =>
    clear HF
    obtain ⟨k, R, hk, rfl, HF, HD⟩ := hrel
    by_cases hk3 : k < 3
    · have hk9 : (k : Int) < 3 := by omega
      have hnk := HNN.out k hk3
      go_wp2_with fail
      go_loopw [4] (fun i wx => ∃ (t : Nat) (R' : Nat → L), t ≤ n k ∧ i = .int .i64 t ∧ Hid (Fs N W0 wx A n C R') ∧ Hid (∀ j, j < k → R' j = mkR j (n j)) ∧ Hid ((R' k).take t = mkR k t)) (fun i _ => n k - (intOf i).toNat)
      case atStart => exact ⟨0, R, by omega, rfl, HF, HD, Lib.hid (by simp [mkR])⟩
      case round =>
        clear HF HD
        obtain ⟨t, R', ht, rfl, HF, HD, HT⟩ := hrel
        have c0 := HF.out.lsc hG HGN.out (HC.out k hk3)
        have hGx : G < wr.heap.size := Nat.lt_of_lt_of_le hG HF.out.sz
        by_cases htn : t < n k
        · obtain ⟨g, hg, hg0, hgc⟩ := HF.out.addr hk3 (by omega)
          rw [hg] at c0
          have hne : G ≠ g := by have := HGN.out k hk3; rw [hg] at this; simpa [Value.ownBlock, eq_comm] using this
          have ht9 : (t : Int) < (n k : Int) := by omega
          go_wp2_with fail
          refine wp_region_noPanic ?_
          refine wp_region_held_drew (S := (fun w' => w'.cell? ⟨G, k, none⟩ = some (.slice (some ⟨g, 0, none⟩) (n k) (C k)))) (by kernel_rfl) c0 (fun hR0 => ?_)
          change wpAnyH _ _ _ _ _ 10 #[false, false, false, false, false, false, false, false, false, false] _ _
          clear c0
          refine wpAnyH_take (i := 0) (oi := { dst := some 31, op := Op.move (Operand.tmp 0), type := 40, pos := "apart.go:436", after := #[], guard := none }) (v := ?_) rfl (by kernel_rfl) (by kernel_rfl) (by kernel_rfl) (fun _ _ _ h => h) (Or.inl ⟨by rfl, ?_⟩) (by assumption) ?_
          rotate_left 1
          · (intro w hSw; (try dsimp only at hSw); go_simp <;> (with_reducible rfl))
          (first | ((fail_if_success (unfold Act.put)); (try simp only [List.setIfInBounds_toArray, List.set_cons_zero, List.set_cons_succ])) | (try simp only [Act.put, List.setIfInBounds_toArray, List.set_cons_zero, List.set_cons_succ]))
          refine wpAnyH_take (i := 1) (oi := { dst := some 32, op := Op.move (Operand.tmp 3), type := 3, pos := "apart.go:436", after := #[], guard := none }) (v := ?_) rfl (by kernel_rfl) (by kernel_rfl) (by kernel_rfl) (fun _ _ _ h => h) (Or.inl ⟨by rfl, ?_⟩) (by assumption) ?_
          rotate_left 1
          · (intro w hSw; (try dsimp only at hSw); go_simp <;> (with_reducible rfl))
          (first | ((fail_if_success (unfold Act.put)); (try simp only [List.setIfInBounds_toArray, List.set_cons_zero, List.set_cons_succ])) | (try simp only [Act.put, List.setIfInBounds_toArray, List.set_cons_zero, List.set_cons_succ]))
          refine wpAnyH_take (i := 2) (oi := { dst := some 33, op := Op.indexAddr 40 (Operand.tmp 31) (Operand.tmp 32), type := 0, pos := "apart.go:436", after := #[{ on := 0, ground := Ground.data }, { on := 1, ground := Ground.data }], guard := none }) (v := ?_) rfl (by kernel_rfl) (by kernel_rfl) (by kernel_rfl) (fun _ _ _ h => h) (Or.inl ⟨by rfl, ?_⟩) (by assumption) ?_
          rotate_left 1
          · (intro w hSw; (try dsimp only at hSw); go_simp <;> (with_reducible rfl))
          (first | ((fail_if_success (unfold Act.put)); (try simp only [List.setIfInBounds_toArray, List.set_cons_zero, List.set_cons_succ])) | (try simp only [Act.put, List.setIfInBounds_toArray, List.set_cons_zero, List.set_cons_succ]))
          refine wpAnyH_take (i := 3) (oi := { dst := some 34, op := Op.load 22 (Operand.tmp 33), type := 22, pos := "apart.go:436", after := #[{ on := 2, ground := Ground.data }], guard := none }) (v := ?_) rfl (by kernel_rfl) (by kernel_rfl) (by kernel_rfl) (fun _ _ _ h => h) (Or.inl ⟨by rfl, ?_⟩) (by assumption) ?_
          rotate_left 1
          · (intro w hSw; (try dsimp only at hSw); go_simp <;> (with_reducible rfl))
          (first | ((fail_if_success (unfold Act.put)); (try simp only [List.setIfInBounds_toArray, List.set_cons_zero, List.set_cons_succ])) | (try simp only [Act.put, List.setIfInBounds_toArray, List.set_cons_zero, List.set_cons_succ]))
          refine wpAnyH_take (i := 4) (oi := { dst := some 35, op := Op.move (Operand.tmp 4), type := 3, pos := "apart.go:436", after := #[], guard := none }) (v := ?_) rfl (by kernel_rfl) (by kernel_rfl) (by kernel_rfl) (fun _ _ _ h => h) (Or.inl ⟨by rfl, ?_⟩) (by assumption) ?_
          rotate_left 1
          · (intro w hSw; (try dsimp only at hSw); go_simp <;> (with_reducible rfl))
          (first | ((fail_if_success (unfold Act.put)); (try simp only [List.setIfInBounds_toArray, List.set_cons_zero, List.set_cons_succ])) | (try simp only [Act.put, List.setIfInBounds_toArray, List.set_cons_zero, List.set_cons_succ]))
          refine wpAnyH_take (i := 5) (oi := { dst := some 36, op := Op.move (Operand.tmp 3), type := 3, pos := "apart.go:436", after := #[], guard := none }) (v := ?_) rfl (by kernel_rfl) (by kernel_rfl) (by kernel_rfl) (fun _ _ _ h => h) (Or.inl ⟨by rfl, ?_⟩) (by assumption) ?_
          rotate_left 1
          · (intro w hSw; (try dsimp only at hSw); go_simp <;> (with_reducible rfl))
          (first | ((fail_if_success (unfold Act.put)); (try simp only [List.setIfInBounds_toArray, List.set_cons_zero, List.set_cons_succ])) | (try simp only [Act.put, List.setIfInBounds_toArray, List.set_cons_zero, List.set_cons_succ]))
          refine wpAnyH_take (i := 6) (oi := { dst := some 37, op := Op.move (Operand.tmp 4), type := 3, pos := "apart.go:436", after := #[], guard := none }) (v := ?_) rfl (by kernel_rfl) (by kernel_rfl) (by kernel_rfl) (fun _ _ _ h => h) (Or.inl ⟨by rfl, ?_⟩) (by assumption) ?_
          rotate_left 1
          · (intro w hSw; (try dsimp only at hSw); go_simp <;> (with_reducible rfl))
          (first | ((fail_if_success (unfold Act.put)); (try simp only [List.setIfInBounds_toArray, List.set_cons_zero, List.set_cons_succ])) | (try simp only [Act.put, List.setIfInBounds_toArray, List.set_cons_zero, List.set_cons_succ]))
          refine wpAnyH_ready (rs := [7]) (by kernel_rfl) (by simp) ?_
          refine AllReadyH.cons (o := { dst := some 38, op := Op.call { callee := Callee.value (Operand.func 37), args := #[Operand.tmp 36, Operand.tmp 37], argTypes := #[3, 3] }, type := 31, pos := "apart.go:436", after := #[{ on := 5, ground := Ground.data }, { on := 6, ground := Ground.data }], guard := none }) rfl (fun K hK => ?_) AllReadyH.nil
          go_simp
          go_at_call 37; refine (HM.out k t hk3 (by omega) _).mono ?_; rintro e w1 ⟨rfl, hb2⟩; have HF1 := Lib.hid (HF.out.on ((Below.refl _ _).drew.trans hb2) (Nat.le_trans hN HF.out.sz)); obtain ⟨hlk, hrow⟩ := HF1.out.row k hk3; rw [hg] at hrow; obtain ⟨x1, x2⟩ := cellsS_get (R' k) t (by omega); have e1 := (hrow.cellAt (t * 2) (by omega)).trans x1; have e2 := (hrow.cellAt (t * 2 + 1) (by omega)).trans x2; have f1 := hrow.frozenAt (t * 2); have f2 := hrow.frozenAt (t * 2 + 1); clear x1 x2; have HROW := Lib.hid hrow; clear hrow
          (try go_wp2_with fail)
          refine hK.out _ _ ((hb2.cell (p := ⟨G, k, none⟩) hGx).trans hR0) (fun hR1 => ?_)
          clear hK K hR0
          (first | ((fail_if_success (unfold Act.put)); (try simp only [List.setIfInBounds_toArray, List.set_cons_zero, List.set_cons_succ])) | (try simp only [Act.put, List.setIfInBounds_toArray, List.set_cons_zero, List.set_cons_succ]))
          refine wpAnyH_take (i := 8) (oi := { dst := some 39, op := Op.indexAddr 22 (Operand.tmp 34) (Operand.tmp 35), type := 0, pos := "apart.go:436", after := #[{ on := 3, ground := Ground.data }, { on := 4, ground := Ground.data }, { on := 0, ground := Ground.phase }, { on := 1, ground := Ground.phase }, { on := 2, ground := Ground.phase }, { on := 3, ground := Ground.phase }, { on := 4, ground := Ground.phase }, { on := 5, ground := Ground.phase }, { on := 6, ground := Ground.phase }, { on := 7, ground := Ground.phase }], guard := none }) (v := ?_) rfl (by kernel_rfl) (by kernel_rfl) (by kernel_rfl) (fun _ _ _ h => h) (Or.inl ⟨by rfl, ?_⟩) (by assumption) ?_
          rotate_left 1
          · (intro w hSw; (try dsimp only at hSw); go_simp <;> (with_reducible rfl))
          (first | ((fail_if_success (unfold Act.put)); (try simp only [List.setIfInBounds_toArray, List.set_cons_zero, List.set_cons_succ])) | (try simp only [Act.put, List.setIfInBounds_toArray, List.set_cons_zero, List.set_cons_succ]))
          refine wpAnyH_ready (rs := [9]) (by kernel_rfl) (by simp) ?_
          refine AllReadyH.cons (o := { dst := none, op := Op.store 31 (Operand.tmp 39) (Operand.tmp 38), type := 0, pos := "apart.go:436", after := #[{ on := 8, ground := Ground.data }, { on := 7, ground := Ground.data }, { on := 7, ground := Ground.chain }, { on := 0, ground := Ground.phase }, { on := 1, ground := Ground.phase }, { on := 2, ground := Ground.phase }, { on := 3, ground := Ground.phase }, { on := 4, ground := Ground.phase }, { on := 5, ground := Ground.phase }, { on := 6, ground := Ground.phase }, { on := 7, ground := Ground.phase }], guard := none }) rfl (fun K hK => ?_) AllReadyH.nil
          go_simp
          refine hK.out _ _ (cell_put2 hR1 hne) (fun hR2 => ?_)
          clear hK K hR1
          (first | ((fail_if_success (unfold Act.put)); (try simp only [List.setIfInBounds_toArray, List.set_cons_zero, List.set_cons_succ])) | (try simp only [Act.put, List.setIfInBounds_toArray, List.set_cons_zero, List.set_cons_succ]))
          refine wpAnyH_done (by kernel_rfl) ?_ _
          refine NoPanic.normal ?_
          clear hR2
          have hl2 : ((R' k).set t (mk k t, 0)).length = n k := by rw [List.length_set]; exact hlk
          have hrow2 := ((HROW.out.stored (t * 2) (.int .i64 (mk k t))).1.stored (t * 2 + 1) (.int .i64 0)).1
          rw [cellsS_put _ _ _ _ (by omega)] at hrow2
          have HF2 := Lib.hid (HF1.out.change hk3 hg ((grown_set w1 g (t * 2) (.int .i64 (mk k t))).trans (grown_set (w1.setCell ⟨g, t * 2, none⟩ (.int .i64 (mk k t))) g (t * 2 + 1) (.int .i64 0))) ((R' k).set t (mk k t, 0)) hl2 (by rw [hg]; exact hrow2) (Nat.le_trans hN HF1.out.sz))
          have HD2 : Hid (∀ j, j < k → (fun j => if j = k then (R' k).set t (mk k t, 0) else R' j) j = mkR j (n j)) := Lib.hid (fun j hj => by
            show (if j = k then _ else _) = _
            rw [if_neg (by omega)]; exact HD.out j hj)
          have HT2 : Hid (((fun j => if j = k then (R' k).set t (mk k t, 0) else R' j) k).take (t + 1) = mkR k (t + 1)) := Lib.hid (by
            show ((if k = k then _ else _ : L)).take (t + 1) = _
            rw [if_pos rfl, List.take_add_one, List.take_set_of_le (Nat.le_refl _), HT.out, mkR_succ, List.getElem?_set_self (by omega)]
            rfl)
          clear hb2 hrow2 HF HF1 HD HT HROW
          go_wp2
          go_roundw
          case rel => exact ⟨t + 1, _, by omega, by go_num, HF2, HD2, HT2⟩
          case measure => simp [intOf]; omega
        · obtain rfl : t = n k := by omega
          have HD2 : Hid (∀ j, j < k + 1 → R' j = mkR j (n j)) := Lib.hid (fun j hj => by
            by_cases e : j = k
            · subst e
              have := HT.out
              rwa [List.take_of_length_le (by have := (HF.out.row j hk3).1; omega)] at this
            · exact HD.out j (by omega))
          go_wp2
          go_roundw
          case rel => exact ⟨k + 1, R', by omega, by go_num, HF, HD2⟩
          case measure => simp [intOf]; omega
    · obtain rfl : k = 3 := by omega
      have HFM := Lib.hid (HF.out.congr (fun j hj => HD.out j hj))
      clear HF HD
      go_wp2_with (at_make; refine wpList_make_full _ rfl _ _ 40 rfl W0.heap.size 22 i1 (.slice none 0 0) 1 Tryz.underlying40 hi1 hy0 hy1 _ _ _ _ 3 rfl rfl rfl rfl (by rw [hy2]; omega) (by unfold maxLen; omega) HFM.out.sz ?_; intro w1 hown hgrow)
      have HF1 := Lib.hid (HFM.out.none hgrow hN)
      have hQ0 := HFM.out.sz
      obtain ⟨Q, hQ⟩ : ∃ Q, wr.heap.size = Q := ⟨_, rfl⟩
      rw [hQ] at hown hQ0
      try rw [hQ]
      have HZ0 := Lib.hid hown
      have hzl := hown.1
      clear hown hgrow hQ HFM
      go_loopw [6] (fun i wr => ∃ (k : Nat) (Z : List Value), k ≤ 3 ∧ i = .int .i64 k ∧ Z.length = 3 ∧ Hid (wr.ownsRow W0.heap.size 22 1 (.slice (some ⟨Q, 0, none⟩) 3 3) 3 Z) ∧ Hid (Fs N W0 wr A n C (fun j => mkR j (n j))) ∧ Hid (∀ j, j < k → ∃ g, Z[j]? = some g ∧ Gat N W0.heap.size wr (A j) (C j) g (n j + 64) (mkR j (n j + 64)))) (fun i _ => 3 - (intOf i).toNat)
      case atStart => exact ⟨0, _, by omega, rfl, by omega, HZ0, HF1, Lib.hid (fun j hj => by omega)⟩
      case round =>
        clear HZ0 HF1 hzl
        obtain ⟨k, Z, hk, rfl, hZl, HZ, HF, HJ⟩ := hrel
        by_cases hk3 : k < 3
        · have hk9 : (k : Int) < 3 := by omega
          have hnk := HNN.out k hk3
          have c0 := HF.out.lsc hG HGN.out (HC.out k hk3)
          obtain ⟨S, hS⟩ : ∃ S, wr.heap.size = S := ⟨_, rfl⟩
          have hS0 : W0.heap.size ≤ S := by rw [← hS]; exact HF.out.sz
          have HG0 : Hid (Gat N S wr (A k) (C k) (.slice (A k) (n k) (C k)) (n k + 0) (mkR k (n k + 0))) := Lib.hid ⟨(HF.out.row k hk3).2, .inl rfl⟩
          have hQS : Q < S := by rw [← hS]; exact (HZ.out.lt Q rfl).2
          have hAQ : (Value.slice (A k) (n k) (C k)).ownBlock ≠ some Q := fun e => by have := HF.out.old k hk3 Q e; omega
          have HZK := Lib.hid (fun (W' : World) (hh : ∀ b, b < S → (Value.slice (A k) (n k) (C k)).ownBlock ≠ some b → W'.heap[b]? = wr.heap[b]?) => own_same HZ.out (fun b (hb : (Value.slice (some ⟨Q, 0, none⟩) 3 3).ownBlock = some b) => hh b (by obtain rfl : Q = b := (by simpa [Value.ownBlock] using hb); exact hQS) (by obtain rfl : Q = b := (by simpa [Value.ownBlock] using hb); exact hAQ)))
          have HJK := Lib.hid (fun (W' : World) (hh : ∀ b, b < S → (Value.slice (A k) (n k) (C k)).ownBlock ≠ some b → W'.heap[b]? = wr.heap[b]?) (j : Nat) (hj : j < k) => show ∃ g, Z[j]? = some g ∧ Gat N W0.heap.size W' (A j) (C j) g (n j + 64) (mkR j (n j + 64)) from by
            obtain ⟨g, hg, hG⟩ := HJ.out j hj
            exact ⟨g, hg, hG.keep HF.out (by omega) hk3 (by omega) (Nat.le_refl _) (by rw [hS]; exact Nat.le_refl _) hh⟩)
          go_wp2_with fail
          go_loopw [7, 8] (fun g i wx => ∃ t : Nat, t ≤ 64 ∧ i = .int .i64 t ∧ Hid (Fs N W0 wx A n C (fun j => mkR j (n j))) ∧ Hid (Gat N S wx (A k) (C k) g (n k + t) (mkR k (n k + t))) ∧ Hid (∀ b, b < S → (Value.slice (A k) (n k) (C k)).ownBlock ≠ some b → wx.heap[b]? = wr.heap[b]?) ∧ S ≤ wx.heap.size) (fun _ i _ => 64 - (intOf i).toNat)
          case atStart => exact ⟨0, by omega, rfl, HF, HG0, Lib.hid (fun _ _ _ => rfl), by omega⟩
          case round =>
            clear HG0
            obtain ⟨t, ht, rfl, HFX, HG, HH, hSx⟩ := hrel
            by_cases ht64 : t < 64
            · have ht9 : (t : Int) < 64 := by omega
              have c1 := HFX.out.lsc hG HGN.out (HC.out k hk3)
              have hGS : G < wr.heap.size := Nat.lt_of_lt_of_le hG HFX.out.sz
              have HMT := Lib.hid (show ∀ W, Calls Tryz.prog 37 #[.int .i64 k, .int .i64 ((n k : Int) + (t : Int))] W (Says (.agg #[.int .i64 (mk k (n k + t : Nat)), .int .i64 0]) W) from fun W => HM.out k (n k + t) hk3 (by omega) W)
              have HSU := Lib.hid (mkR_succ k (n k + t))
              obtain ⟨z, hz⟩ : ∃ z, mk k (n k + t : Nat) = z := ⟨_, rfl⟩
              rw [hz] at HMT HSU
              clear hz
              go_wp2_with fail
              refine (HMT.out _).mono ?_
              rintro e w3 ⟨rfl, hb3⟩
              have HF3 := Lib.hid (HFX.out.on hb3 (Nat.le_trans hN HFX.out.sz))
              have HG3 := Lib.hid (HG.out.on hb3)
              have hal := (Below.refl w3.heap.size w3).alloc (Nat.le_refl _) (.cells #[.int .i64 z, .int .i64 0] 31)
              have HF4 := Lib.hid (HF3.out.on hal (Nat.le_trans hN HF3.out.sz))
              have HG4 := Lib.hid (HG3.out.on hal)
              have hS3 := Nat.le_trans hSx hb3.size
              have HH4 := Lib.hid (fun b (hb : b < S) (hne : (Value.slice (A k) (n k) (C k)).ownBlock ≠ some b) => (hal.block b (Nat.lt_of_lt_of_le hb hS3)).trans ((hb3.block b (Nat.lt_of_lt_of_le hb hSx)).trans (HH.out b hb hne)))
              have hS4 := Nat.le_trans hS3 hal.size
              have HTK := Lib.hid (mkR_take (k := k) (show n k ≤ n k + t by omega))
              clear hb3 hal HF3 HG3 HFX HG
              go_wp2_with (at_builtin; refine g_append rfl _ _ rfl hN HF4.out hk3 (show n k ≤ n k + t by omega) _ rfl (mkR k (n k + t)) [(z, 0)] HTK.out HG4.out ⟨w3.heap.size, 0, none⟩ rfl rfl (cell_two_new _ _ _ _) hS0 hS4 (by omega) ?_; intro g' w4 hF4 hG4 hfr4 hS5)
              have HF5 := Lib.hid hF4
              have HG5 : Hid (Gat N S w4 (A k) (C k) g' (n k + (t + 1)) (mkR k (n k + (t + 1)))) := Lib.hid (by rw [show n k + (t + 1) = n k + t + 1 from rfl, HSU.out]; exact hG4)
              have HH5 := Lib.hid (fun b (hb : b < S) (hne : (Value.slice (A k) (n k) (C k)).ownBlock ≠ some b) => (hfr4 b hb hne).trans (HH4.out b hb hne))
              clear hF4 hG4 hfr4
              go_wp2
              go_roundw
              case rel => exact ⟨t + 1, by omega, by go_num, HF5, HG5, HH5, hS5⟩
              case measure => simp [intOf]; omega
            · obtain rfl : t = 64 := by omega
              obtain ⟨ga, gc, rfl⟩ := own_slice HG.out.1
              have hz := HZK.out _ HH.out
              have hjk := HJK.out _ HH.out
              obtain ⟨u, hu⟩ : ∃ u, Z[k]? = some u := ⟨Z[k]'(by omega), by simp [show k < Z.length by omega]⟩
              have cq := (hz.cellAt k (by omega)).trans hu
              have fq := hz.frozenAt k
              have hz2 := (hz.stored k (.slice ga (n k + 64) gc)).1
              have oth : ∀ g m l (j : Nat), Gat N W0.heap.size wr (A j) (C j) g m l → Gat N W0.heap.size (wr.setCell ⟨Q, k, none⟩ (.slice ga (n k + 64) gc)) (A j) (C j) g m l := fun g m l j h => h.same (fun b hb _ => heap_setCell_other _ ⟨Q, k, none⟩ b _ (fun e => own_ne h.1 hz (by decide) hb (by rw [e]; rfl)))
              have HZ2 := Lib.hid hz2
              have HF2 := Lib.hid (HFX.out.side (grown_set wr Q k (.slice ga (n k + 64) gc)) hQ0 hN)
              have HJ2 : Hid (∀ j, j < k + 1 → ∃ g, (Z.set k (.slice ga (n k + 64) gc))[j]? = some g ∧ Gat N W0.heap.size (wr.setCell ⟨Q, k, none⟩ (.slice ga (n k + 64) gc)) (A j) (C j) g (n j + 64) (mkR j (n j + 64))) := Lib.hid (fun j hj => by
                by_cases e : j = k
                · subst e
                  exact ⟨_, List.getElem?_set_self (by omega), oth _ _ _ _ ⟨HG.out.1, HG.out.2.imp id (fun h => own_mono h hS0)⟩⟩
                · obtain ⟨g, hg, hG⟩ := hjk j (by omega)
                  exact ⟨g, by rw [List.getElem?_set_ne (fun h => e h.symm)]; exact hg, oth _ _ _ _ hG⟩)
              clear hz hjk hz2 oth hu HFX HG HH HZK HJK
              go_wp2
              go_roundw
              case rel => exact ⟨k + 1, _, by omega, by go_num, by rw [List.length_set]; exact hZl, HZ2, HF2, HJ2⟩
              case measure => simp [intOf]; omega
        · obtain rfl : k = 3 := by omega
          obtain ⟨w5, hw5⟩ : ∃ w5, w5 = wr := ⟨_, rfl⟩
          subst hw5
          have hG5 : G < w5.heap.size := Nat.lt_of_lt_of_le hG HF.out.sz
          go_wp2_with fail
          go_loopw [9] (fun i wr => ∃ k : Nat, k ≤ 3 ∧ i = .int .i64 k ∧ Hid (Below w5.heap.size w5 wr)) (fun i _ => 3 - (intOf i).toNat)
          case atStart => exact ⟨0, by omega, rfl, Lib.hid (Below.refl _ _)⟩
          case round =>
            obtain ⟨k, hk, rfl, HB⟩ := hrel
            by_cases hk3 : k < 3
            · have hk9 : (k : Int) < 3 := by omega
              have hnk := HNN.out k hk3
              obtain ⟨g, hgZ, hgat⟩ := HJ.out k hk3
              have HRD := Lib.hid (fun W' (hb : Below w5.heap.size w5 W') => read_ext HZ.out hk3 hgZ hgat (show 0 < n k + 64 by omega) hb)
              clear hgZ hgat
              go_wp2_with fail
              go_loopw [10] (fun i wr => ∃ t : Nat, t ≤ n k + 64 ∧ i = .int .i64 t ∧ Hid (Below w5.heap.size w5 wr)) (fun i _ => n k + 64 - (intOf i).toNat)
              case atStart => exact ⟨0, by omega, rfl, HB⟩
              case round =>
                clear HB
                obtain ⟨t, ht, rfl, HB⟩ := hrel
                obtain ⟨b, c, cq, hbl, hQl, hmc, hcs⟩ := HRD.out _ HB.out
                by_cases htm : t < n k + 64
                · have ht9 : (t : Int) < (n k : Int) + 64 := by omega
                  obtain ⟨e1, e2⟩ := hcs t htm
                  rw [mkR_get htm] at e1 e2
                  simp only at e1 e2
                  have HMT := Lib.hid (fun W => HM.out k t hk3 (by omega) W)
                  obtain ⟨z, hz⟩ : ∃ z, mk k t = z := ⟨_, rfl⟩
                  rw [hz] at e1 HMT
                  have c0 := (HB.out.cell (p := ⟨G, k, none⟩) hG5).trans (HF.out.lsc hG HGN.out (HC.out k hk3))
                  have hGl := hG5
                  have hsz := HB.out.size
                  by_cases htn : t < n k
                  · obtain ⟨g, hgA, hgl, hgc, hgs⟩ := fs_read (k := k) HF.out hk3 (by omega) HB.out
                    obtain ⟨e3, e4⟩ := hgs t htn
                    simp only [mkR_get htn] at e3 e4
                    rw [hz] at e3
                    rw [hgA] at c0
                    have ht8 : (t : Int) < (n k : Int) := by omega
                    clear hcs hgs hz
                    go_wp2_with fail
                    refine wp_region_noPanic ?_
                    refine wp_region_held_drew (S := (fun w' => w'.cell? ⟨Q, k, none⟩ = some (.slice (some ⟨b, 0, none⟩) (n k + 64) c) ∧ w'.cell? ⟨b, t * 2, none⟩ = some (.int .i64 z) ∧ w'.cell? ⟨b, t * 2 + 1, none⟩ = some (.int .i64 0) ∧ w'.cell? ⟨G, k, none⟩ = some (.slice (some ⟨g, 0, none⟩) (n k) (C k)) ∧ w'.cell? ⟨g, t * 2, none⟩ = some (.int .i64 z) ∧ w'.cell? ⟨g, t * 2 + 1, none⟩ = some (.int .i64 0))) (by kernel_rfl) ⟨cq, e1, e2, c0, e3, e4⟩ (fun hR0 => ?_)
                    change wpAnyH _ _ _ _ _ 35 #[false, false, false, false, false, false, false, false, false, false, false, false, false, false, false, false, false, false, false, false, false, false, false, false, false, false, false, false, false, false, false, false, false, false, false] _ _
                    clear cq e1 e2 c0 e3 e4
                    refine wpAnyH_take (i := 0) (oi := { dst := some 88, op := Op.move (Operand.tmp 5), type := 40, pos := "apart.go:449", after := #[], guard := none }) (v := ?_) rfl (by kernel_rfl) (by kernel_rfl) (by kernel_rfl) (fun _ _ _ h => h) (Or.inl ⟨by rfl, ?_⟩) (by assumption) ?_
                    rotate_left 1
                    · (intro w hSw; (try dsimp only at hSw); go_simp <;> (with_reducible rfl))
                    (first | ((fail_if_success (unfold Act.put)); (try simp only [List.setIfInBounds_toArray, List.set_cons_zero, List.set_cons_succ])) | (try simp only [Act.put, List.setIfInBounds_toArray, List.set_cons_zero, List.set_cons_succ]))
                    refine wpAnyH_take (i := 1) (oi := { dst := some 89, op := Op.move (Operand.tmp 9), type := 3, pos := "apart.go:449", after := #[], guard := none }) (v := ?_) rfl (by kernel_rfl) (by kernel_rfl) (by kernel_rfl) (fun _ _ _ h => h) (Or.inl ⟨by rfl, ?_⟩) (by assumption) ?_
                    rotate_left 1
                    · (intro w hSw; (try dsimp only at hSw); go_simp <;> (with_reducible rfl))
                    (first | ((fail_if_success (unfold Act.put)); (try simp only [List.setIfInBounds_toArray, List.set_cons_zero, List.set_cons_succ])) | (try simp only [Act.put, List.setIfInBounds_toArray, List.set_cons_zero, List.set_cons_succ]))
                    refine wpAnyH_take (i := 2) (oi := { dst := some 90, op := Op.indexAddr 40 (Operand.tmp 88) (Operand.tmp 89), type := 0, pos := "apart.go:449", after := #[{ on := 0, ground := Ground.data }, { on := 1, ground := Ground.data }], guard := none }) (v := ?_) rfl (by kernel_rfl) (by kernel_rfl) (by kernel_rfl) (fun _ _ _ h => h) (Or.inl ⟨by rfl, ?_⟩) (by assumption) ?_
                    rotate_left 1
                    · (intro w hSw; (try dsimp only at hSw); go_simp <;> (with_reducible rfl))
                    (first | ((fail_if_success (unfold Act.put)); (try simp only [List.setIfInBounds_toArray, List.set_cons_zero, List.set_cons_succ])) | (try simp only [Act.put, List.setIfInBounds_toArray, List.set_cons_zero, List.set_cons_succ]))
                    refine wpAnyH_take (i := 3) (oi := { dst := some 91, op := Op.load 22 (Operand.tmp 90), type := 22, pos := "apart.go:449", after := #[{ on := 2, ground := Ground.data }], guard := none }) (v := ?_) rfl (by kernel_rfl) (by kernel_rfl) (by kernel_rfl) (fun _ _ _ h => h) (Or.inl ⟨by rfl, ?_⟩) (by assumption) ?_
                    rotate_left 1
                    · (intro w hSw; (try dsimp only at hSw); go_simp <;> (with_reducible rfl))
                    (first | ((fail_if_success (unfold Act.put)); (try simp only [List.setIfInBounds_toArray, List.set_cons_zero, List.set_cons_succ])) | (try simp only [Act.put, List.setIfInBounds_toArray, List.set_cons_zero, List.set_cons_succ]))
                    refine wpAnyH_take (i := 4) (oi := { dst := some 92, op := Op.move (Operand.tmp 10), type := 3, pos := "apart.go:449", after := #[], guard := none }) (v := ?_) rfl (by kernel_rfl) (by kernel_rfl) (by kernel_rfl) (fun _ _ _ h => h) (Or.inl ⟨by rfl, ?_⟩) (by assumption) ?_
                    rotate_left 1
                    · (intro w hSw; (try dsimp only at hSw); go_simp <;> (with_reducible rfl))
                    (first | ((fail_if_success (unfold Act.put)); (try simp only [List.setIfInBounds_toArray, List.set_cons_zero, List.set_cons_succ])) | (try simp only [Act.put, List.setIfInBounds_toArray, List.set_cons_zero, List.set_cons_succ]))
                    refine wpAnyH_take (i := 5) (oi := { dst := some 93, op := Op.indexAddr 22 (Operand.tmp 91) (Operand.tmp 92), type := 0, pos := "apart.go:449", after := #[{ on := 3, ground := Ground.data }, { on := 4, ground := Ground.data }], guard := none }) (v := ?_) rfl (by kernel_rfl) (by kernel_rfl) (by kernel_rfl) (fun _ _ _ h => h) (Or.inl ⟨by rfl, ?_⟩) (by assumption) ?_
                    rotate_left 1
                    · (intro w hSw; (try dsimp only at hSw); go_simp <;> (with_reducible rfl))
                    (first | ((fail_if_success (unfold Act.put)); (try simp only [List.setIfInBounds_toArray, List.set_cons_zero, List.set_cons_succ])) | (try simp only [Act.put, List.setIfInBounds_toArray, List.set_cons_zero, List.set_cons_succ]))
                    refine wpAnyH_take (i := 6) (oi := { dst := some 94, op := Op.load 31 (Operand.tmp 93), type := 31, pos := "apart.go:449", after := #[{ on := 5, ground := Ground.data }], guard := none }) (v := ?_) rfl (by kernel_rfl) (by kernel_rfl) (by kernel_rfl) (fun _ _ _ h => h) (Or.inl ⟨by rfl, ?_⟩) (by assumption) ?_
                    rotate_left 1
                    · (intro w hSw; (try dsimp only at hSw); go_simp <;> (with_reducible rfl))
                    (first | ((fail_if_success (unfold Act.put)); (try simp only [List.setIfInBounds_toArray, List.set_cons_zero, List.set_cons_succ])) | (try simp only [Act.put, List.setIfInBounds_toArray, List.set_cons_zero, List.set_cons_succ]))
                    refine wpAnyH_take (i := 7) (oi := { dst := some 95, op := Op.move (Operand.tmp 9), type := 3, pos := "apart.go:449", after := #[], guard := none }) (v := ?_) rfl (by kernel_rfl) (by kernel_rfl) (by kernel_rfl) (fun _ _ _ h => h) (Or.inl ⟨by rfl, ?_⟩) (by assumption) ?_
                    rotate_left 1
                    · (intro w hSw; (try dsimp only at hSw); go_simp <;> (with_reducible rfl))
                    (first | ((fail_if_success (unfold Act.put)); (try simp only [List.setIfInBounds_toArray, List.set_cons_zero, List.set_cons_succ])) | (try simp only [Act.put, List.setIfInBounds_toArray, List.set_cons_zero, List.set_cons_succ]))
                    refine wpAnyH_take (i := 8) (oi := { dst := some 96, op := Op.move (Operand.tmp 10), type := 3, pos := "apart.go:449", after := #[], guard := none }) (v := ?_) rfl (by kernel_rfl) (by kernel_rfl) (by kernel_rfl) (fun _ _ _ h => h) (Or.inl ⟨by rfl, ?_⟩) (by assumption) ?_
                    rotate_left 1
                    · (intro w hSw; (try dsimp only at hSw); go_simp <;> (with_reducible rfl))
                    (first | ((fail_if_success (unfold Act.put)); (try simp only [List.setIfInBounds_toArray, List.set_cons_zero, List.set_cons_succ])) | (try simp only [Act.put, List.setIfInBounds_toArray, List.set_cons_zero, List.set_cons_succ]))
                    refine wpAnyH_ready (rs := [9]) (by kernel_rfl) (by simp) ?_
                    refine AllReadyH.cons (o := { dst := some 97, op := Op.call { callee := Callee.value (Operand.func 37), args := #[Operand.tmp 95, Operand.tmp 96], argTypes := #[3, 3] }, type := 31, pos := "apart.go:449", after := #[{ on := 7, ground := Ground.data }, { on := 8, ground := Ground.data }], guard := none }) rfl (fun K hK => ?_) AllReadyH.nil
                    go_simp
                    go_at_call 37; refine (HMT.out _).mono ?_; rintro e w6 ⟨rfl, hb2⟩; have hsz2 := Nat.le_trans hsz hb2.size; have HB6 := Lib.hid (HB.out.trans (((Below.refl wr.heap.size wr).drew.trans hb2).mono hsz))
                    (try go_wp2_with fail)
                    refine hK.out _ _ (⟨(hb2.cell (p := ⟨Q, k, none⟩) (Nat.lt_of_lt_of_le hQl hsz)).trans hR0.1, (hb2.cell (p := ⟨b, t * 2, none⟩) (Nat.lt_of_lt_of_le hbl hsz)).trans hR0.2.1, (hb2.cell (p := ⟨b, t * 2 + 1, none⟩) (Nat.lt_of_lt_of_le hbl hsz)).trans hR0.2.2.1, (hb2.cell (p := ⟨G, k, none⟩) (Nat.lt_of_lt_of_le hGl hsz)).trans hR0.2.2.2.1, (hb2.cell (p := ⟨g, t * 2, none⟩) (Nat.lt_of_lt_of_le hgl hsz)).trans hR0.2.2.2.2.1, (hb2.cell (p := ⟨g, t * 2 + 1, none⟩) (Nat.lt_of_lt_of_le hgl hsz)).trans hR0.2.2.2.2.2⟩) (fun hR1 => ?_)
                    clear hK K hR0
                    (first | ((fail_if_success (unfold Act.put)); (try simp only [List.setIfInBounds_toArray, List.set_cons_zero, List.set_cons_succ])) | (try simp only [Act.put, List.setIfInBounds_toArray, List.set_cons_zero, List.set_cons_succ]))
                    clear hb2
                    refine wpAnyH_take (i := 10) (oi := { dst := some 98, op := Op.binOp BinOp.eql 31 (Operand.tmp 94) (Operand.tmp 97) 31, type := 4, pos := "apart.go:449", after := #[{ on := 6, ground := Ground.data }, { on := 9, ground := Ground.data }], guard := none }) (v := ?_) rfl (by kernel_rfl) (by kernel_rfl) (by kernel_rfl) (fun _ _ _ h => h) (Or.inl ⟨by rfl, ?_⟩) (by assumption) ?_
                    rotate_left 1
                    · (intro w hSw; (try dsimp only at hSw); go_simp <;> (with_reducible rfl))
                    (first | ((fail_if_success (unfold Act.put)); (try simp only [List.setIfInBounds_toArray, List.set_cons_zero, List.set_cons_succ])) | (try simp only [Act.put, List.setIfInBounds_toArray, List.set_cons_zero, List.set_cons_succ]))
                    refine wpAnyH_take (i := 11) (oi := { dst := some 99, op := Op.unOp UnOp.not 4 (Operand.tmp 98), type := 4, pos := "apart.go:449", after := #[{ on := 10, ground := Ground.data }], guard := none }) (v := ?_) rfl (by kernel_rfl) (by kernel_rfl) (by kernel_rfl) (fun _ _ _ h => h) (Or.inl ⟨by rfl, ?_⟩) (by assumption) ?_
                    rotate_left 1
                    · (intro w hSw; (try dsimp only at hSw); go_simp <;> (with_reducible rfl))
                    (first | ((fail_if_success (unfold Act.put)); (try simp only [List.setIfInBounds_toArray, List.set_cons_zero, List.set_cons_succ])) | (try simp only [Act.put, List.setIfInBounds_toArray, List.set_cons_zero, List.set_cons_succ]))
                    refine wpAnyH_take (i := 12) (oi := { dst := some 100, op := Op.move (Operand.tmp 99), type := 4, pos := "apart.go:449", after := #[{ on := 11, ground := Ground.data }, { on := 9, ground := Ground.chain }], guard := none }) (v := ?_) rfl (by kernel_rfl) (by kernel_rfl) (by kernel_rfl) (fun _ _ _ h => h) (Or.inl ⟨by rfl, ?_⟩) (by assumption) ?_
                    rotate_left 1
                    · (intro w hSw; (try dsimp only at hSw); go_simp <;> (with_reducible rfl))
                    (first | ((fail_if_success (unfold Act.put)); (try simp only [List.setIfInBounds_toArray, List.set_cons_zero, List.set_cons_succ])) | (try simp only [Act.put, List.setIfInBounds_toArray, List.set_cons_zero, List.set_cons_succ]))
                    refine wpAnyH_take (i := 13) (oi := { dst := some 101, op := Op.move (Operand.tmp 10), type := 3, pos := "apart.go:449", after := #[{ on := 12, ground := Ground.guard }], guard := some (12, false) }) (v := ?_) rfl (by kernel_rfl) (by kernel_rfl) (by kernel_rfl) (fun _ _ _ h => h) (Or.inl ⟨by rfl, ?_⟩) (by assumption) ?_
                    rotate_left 1
                    · (intro w hSw; (try dsimp only at hSw); go_simp <;> (with_reducible rfl))
                    (first | ((fail_if_success (unfold Act.put)); (try simp only [List.setIfInBounds_toArray, List.set_cons_zero, List.set_cons_succ])) | (try simp only [Act.put, List.setIfInBounds_toArray, List.set_cons_zero, List.set_cons_succ]))
                    refine wpAnyH_take (i := 14) (oi := { dst := some 102, op := Op.move (Operand.tmp 0), type := 40, pos := "apart.go:449", after := #[{ on := 12, ground := Ground.guard }], guard := some (12, false) }) (v := ?_) rfl (by kernel_rfl) (by kernel_rfl) (by kernel_rfl) (fun _ _ _ h => h) (Or.inl ⟨by rfl, ?_⟩) (by assumption) ?_
                    rotate_left 1
                    · (intro w hSw; (try dsimp only at hSw); go_simp <;> (with_reducible rfl))
                    (first | ((fail_if_success (unfold Act.put)); (try simp only [List.setIfInBounds_toArray, List.set_cons_zero, List.set_cons_succ])) | (try simp only [Act.put, List.setIfInBounds_toArray, List.set_cons_zero, List.set_cons_succ]))
                    refine wpAnyH_take (i := 15) (oi := { dst := some 103, op := Op.move (Operand.tmp 9), type := 3, pos := "apart.go:449", after := #[{ on := 12, ground := Ground.guard }], guard := some (12, false) }) (v := ?_) rfl (by kernel_rfl) (by kernel_rfl) (by kernel_rfl) (fun _ _ _ h => h) (Or.inl ⟨by rfl, ?_⟩) (by assumption) ?_
                    rotate_left 1
                    · (intro w hSw; (try dsimp only at hSw); go_simp <;> (with_reducible rfl))
                    (first | ((fail_if_success (unfold Act.put)); (try simp only [List.setIfInBounds_toArray, List.set_cons_zero, List.set_cons_succ])) | (try simp only [Act.put, List.setIfInBounds_toArray, List.set_cons_zero, List.set_cons_succ]))
                    refine wpAnyH_take (i := 16) (oi := { dst := some 104, op := Op.indexAddr 40 (Operand.tmp 102) (Operand.tmp 103), type := 0, pos := "apart.go:449", after := #[{ on := 14, ground := Ground.data }, { on := 15, ground := Ground.data }, { on := 12, ground := Ground.guard }], guard := some (12, false) }) (v := ?_) rfl (by kernel_rfl) (by kernel_rfl) (by kernel_rfl) (fun _ _ _ h => h) (Or.inl ⟨by rfl, ?_⟩) (by assumption) ?_
                    rotate_left 1
                    · (intro w hSw; (try dsimp only at hSw); go_simp <;> (with_reducible rfl))
                    (first | ((fail_if_success (unfold Act.put)); (try simp only [List.setIfInBounds_toArray, List.set_cons_zero, List.set_cons_succ])) | (try simp only [Act.put, List.setIfInBounds_toArray, List.set_cons_zero, List.set_cons_succ]))
                    refine wpAnyH_take (i := 17) (oi := { dst := some 105, op := Op.load 22 (Operand.tmp 104), type := 22, pos := "apart.go:449", after := #[{ on := 16, ground := Ground.data }, { on := 12, ground := Ground.guard }], guard := some (12, false) }) (v := ?_) rfl (by kernel_rfl) (by kernel_rfl) (by kernel_rfl) (fun _ _ _ h => h) (Or.inl ⟨by rfl, ?_⟩) (by assumption) ?_
                    rotate_left 1
                    · (intro w hSw; (try dsimp only at hSw); go_simp <;> (with_reducible rfl))
                    (first | ((fail_if_success (unfold Act.put)); (try simp only [List.setIfInBounds_toArray, List.set_cons_zero, List.set_cons_succ])) | (try simp only [Act.put, List.setIfInBounds_toArray, List.set_cons_zero, List.set_cons_succ]))
                    refine wpAnyH_take (i := 18) (oi := { dst := some 106, op := Op.call { callee := Callee.builtin Builtin.len, args := #[Operand.tmp 105], argTypes := #[22] }, type := 3, pos := "apart.go:449", after := #[{ on := 17, ground := Ground.data }, { on := 12, ground := Ground.guard }], guard := some (12, false) }) (v := ?_) rfl (by kernel_rfl) (by kernel_rfl) (by kernel_rfl) (fun _ _ _ h => h) (Or.inl ⟨by rfl, ?_⟩) (by assumption) ?_
                    rotate_left 1
                    · (intro w hSw; (try dsimp only at hSw); go_simp <;> (with_reducible rfl))
                    (first | ((fail_if_success (unfold Act.put)); (try simp only [List.setIfInBounds_toArray, List.set_cons_zero, List.set_cons_succ])) | (try simp only [Act.put, List.setIfInBounds_toArray, List.set_cons_zero, List.set_cons_succ]))
                    refine wpAnyH_take (i := 19) (oi := { dst := some 107, op := Op.binOp BinOp.lss 3 (Operand.tmp 101) (Operand.tmp 106) 3, type := 4, pos := "apart.go:449", after := #[{ on := 13, ground := Ground.data }, { on := 18, ground := Ground.data }, { on := 12, ground := Ground.guard }], guard := some (12, false) }) (v := ?_) rfl (by kernel_rfl) (by kernel_rfl) (by kernel_rfl) (fun _ _ _ h => h) (Or.inl ⟨by rfl, ?_⟩) (by assumption) ?_
                    rotate_left 1
                    · (intro w hSw; (try dsimp only at hSw); go_simp <;> (with_reducible rfl))
                    (first | ((fail_if_success (unfold Act.put)); (try simp only [List.setIfInBounds_toArray, List.set_cons_zero, List.set_cons_succ])) | (try simp only [Act.put, List.setIfInBounds_toArray, List.set_cons_zero, List.set_cons_succ]))
                    refine wpAnyH_take (i := 20) (oi := { dst := some 108, op := Op.move (Operand.tmp 107), type := 4, pos := "apart.go:449", after := #[{ on := 19, ground := Ground.data }, { on := 12, ground := Ground.chain }, { on := 12, ground := Ground.guard }], guard := some (12, false) }) (v := ?_) rfl (by kernel_rfl) (by kernel_rfl) (by kernel_rfl) (fun _ _ _ h => h) (Or.inl ⟨by rfl, ?_⟩) (by assumption) ?_
                    rotate_left 1
                    · (intro w hSw; (try dsimp only at hSw); go_simp <;> (with_reducible rfl))
                    (first | ((fail_if_success (unfold Act.put)); (try simp only [List.setIfInBounds_toArray, List.set_cons_zero, List.set_cons_succ])) | (try simp only [Act.put, List.setIfInBounds_toArray, List.set_cons_zero, List.set_cons_succ]))
                    refine wpAnyH_take (i := 21) (oi := { dst := some 109, op := Op.move (Operand.tmp 0), type := 40, pos := "apart.go:449", after := #[{ on := 20, ground := Ground.guard }], guard := some (20, true) }) (v := ?_) rfl (by kernel_rfl) (by kernel_rfl) (by kernel_rfl) (fun _ _ _ h => h) (Or.inl ⟨by rfl, ?_⟩) (by assumption) ?_
                    rotate_left 1
                    · (intro w hSw; (try dsimp only at hSw); go_simp <;> (with_reducible rfl))
                    (first | ((fail_if_success (unfold Act.put)); (try simp only [List.setIfInBounds_toArray, List.set_cons_zero, List.set_cons_succ])) | (try simp only [Act.put, List.setIfInBounds_toArray, List.set_cons_zero, List.set_cons_succ]))
                    refine wpAnyH_take (i := 22) (oi := { dst := some 110, op := Op.move (Operand.tmp 9), type := 3, pos := "apart.go:449", after := #[{ on := 20, ground := Ground.guard }], guard := some (20, true) }) (v := ?_) rfl (by kernel_rfl) (by kernel_rfl) (by kernel_rfl) (fun _ _ _ h => h) (Or.inl ⟨by rfl, ?_⟩) (by assumption) ?_
                    rotate_left 1
                    · (intro w hSw; (try dsimp only at hSw); go_simp <;> (with_reducible rfl))
                    (first | ((fail_if_success (unfold Act.put)); (try simp only [List.setIfInBounds_toArray, List.set_cons_zero, List.set_cons_succ])) | (try simp only [Act.put, List.setIfInBounds_toArray, List.set_cons_zero, List.set_cons_succ]))
                    refine wpAnyH_take (i := 23) (oi := { dst := some 111, op := Op.indexAddr 40 (Operand.tmp 109) (Operand.tmp 110), type := 0, pos := "apart.go:449", after := #[{ on := 21, ground := Ground.data }, { on := 22, ground := Ground.data }, { on := 20, ground := Ground.guard }], guard := some (20, true) }) (v := ?_) rfl (by kernel_rfl) (by kernel_rfl) (by kernel_rfl) (fun _ _ _ h => h) (Or.inl ⟨by rfl, ?_⟩) (by assumption) ?_
                    rotate_left 1
                    · (intro w hSw; (try dsimp only at hSw); go_simp <;> (with_reducible rfl))
                    (first | ((fail_if_success (unfold Act.put)); (try simp only [List.setIfInBounds_toArray, List.set_cons_zero, List.set_cons_succ])) | (try simp only [Act.put, List.setIfInBounds_toArray, List.set_cons_zero, List.set_cons_succ]))
                    refine wpAnyH_take (i := 24) (oi := { dst := some 112, op := Op.load 22 (Operand.tmp 111), type := 22, pos := "apart.go:449", after := #[{ on := 23, ground := Ground.data }, { on := 20, ground := Ground.guard }], guard := some (20, true) }) (v := ?_) rfl (by kernel_rfl) (by kernel_rfl) (by kernel_rfl) (fun _ _ _ h => h) (Or.inl ⟨by rfl, ?_⟩) (by assumption) ?_
                    rotate_left 1
                    · (intro w hSw; (try dsimp only at hSw); go_simp <;> (with_reducible rfl))
                    (first | ((fail_if_success (unfold Act.put)); (try simp only [List.setIfInBounds_toArray, List.set_cons_zero, List.set_cons_succ])) | (try simp only [Act.put, List.setIfInBounds_toArray, List.set_cons_zero, List.set_cons_succ]))
                    refine wpAnyH_take (i := 25) (oi := { dst := some 113, op := Op.move (Operand.tmp 10), type := 3, pos := "apart.go:449", after := #[{ on := 20, ground := Ground.guard }], guard := some (20, true) }) (v := ?_) rfl (by kernel_rfl) (by kernel_rfl) (by kernel_rfl) (fun _ _ _ h => h) (Or.inl ⟨by rfl, ?_⟩) (by assumption) ?_
                    rotate_left 1
                    · (intro w hSw; (try dsimp only at hSw); go_simp <;> (with_reducible rfl))
                    (first | ((fail_if_success (unfold Act.put)); (try simp only [List.setIfInBounds_toArray, List.set_cons_zero, List.set_cons_succ])) | (try simp only [Act.put, List.setIfInBounds_toArray, List.set_cons_zero, List.set_cons_succ]))
                    refine wpAnyH_take (i := 26) (oi := { dst := some 114, op := Op.indexAddr 22 (Operand.tmp 112) (Operand.tmp 113), type := 0, pos := "apart.go:449", after := #[{ on := 24, ground := Ground.data }, { on := 25, ground := Ground.data }, { on := 20, ground := Ground.guard }], guard := some (20, true) }) (v := ?_) rfl (by kernel_rfl) (by kernel_rfl) (by kernel_rfl) (fun _ _ _ h => h) (Or.inl ⟨by rfl, ?_⟩) (by assumption) ?_
                    rotate_left 1
                    · (intro w hSw; (try dsimp only at hSw); go_simp <;> (with_reducible rfl))
                    (first | ((fail_if_success (unfold Act.put)); (try simp only [List.setIfInBounds_toArray, List.set_cons_zero, List.set_cons_succ])) | (try simp only [Act.put, List.setIfInBounds_toArray, List.set_cons_zero, List.set_cons_succ]))
                    refine wpAnyH_take (i := 27) (oi := { dst := some 115, op := Op.load 31 (Operand.tmp 114), type := 31, pos := "apart.go:449", after := #[{ on := 26, ground := Ground.data }, { on := 20, ground := Ground.guard }], guard := some (20, true) }) (v := ?_) rfl (by kernel_rfl) (by kernel_rfl) (by kernel_rfl) (fun _ _ _ h => h) (Or.inl ⟨by rfl, ?_⟩) (by assumption) ?_
                    rotate_left 1
                    · (intro w hSw; (try dsimp only at hSw); go_simp <;> (with_reducible rfl))
                    (first | ((fail_if_success (unfold Act.put)); (try simp only [List.setIfInBounds_toArray, List.set_cons_zero, List.set_cons_succ])) | (try simp only [Act.put, List.setIfInBounds_toArray, List.set_cons_zero, List.set_cons_succ]))
                    refine wpAnyH_take (i := 28) (oi := { dst := some 116, op := Op.move (Operand.tmp 9), type := 3, pos := "apart.go:449", after := #[{ on := 20, ground := Ground.guard }], guard := some (20, true) }) (v := ?_) rfl (by kernel_rfl) (by kernel_rfl) (by kernel_rfl) (fun _ _ _ h => h) (Or.inl ⟨by rfl, ?_⟩) (by assumption) ?_
                    rotate_left 1
                    · (intro w hSw; (try dsimp only at hSw); go_simp <;> (with_reducible rfl))
                    (first | ((fail_if_success (unfold Act.put)); (try simp only [List.setIfInBounds_toArray, List.set_cons_zero, List.set_cons_succ])) | (try simp only [Act.put, List.setIfInBounds_toArray, List.set_cons_zero, List.set_cons_succ]))
                    refine wpAnyH_take (i := 29) (oi := { dst := some 117, op := Op.move (Operand.tmp 10), type := 3, pos := "apart.go:449", after := #[{ on := 20, ground := Ground.guard }], guard := some (20, true) }) (v := ?_) rfl (by kernel_rfl) (by kernel_rfl) (by kernel_rfl) (fun _ _ _ h => h) (Or.inl ⟨by rfl, ?_⟩) (by assumption) ?_
                    rotate_left 1
                    · (intro w hSw; (try dsimp only at hSw); go_simp <;> (with_reducible rfl))
                    (first | ((fail_if_success (unfold Act.put)); (try simp only [List.setIfInBounds_toArray, List.set_cons_zero, List.set_cons_succ])) | (try simp only [Act.put, List.setIfInBounds_toArray, List.set_cons_zero, List.set_cons_succ]))
                    refine wpAnyH_ready (rs := [30]) (by kernel_rfl) (by simp) ?_
                    refine AllReadyH.cons (o := { dst := some 118, op := Op.call { callee := Callee.value (Operand.func 37), args := #[Operand.tmp 116, Operand.tmp 117], argTypes := #[3, 3] }, type := 31, pos := "apart.go:449", after := #[{ on := 28, ground := Ground.data }, { on := 29, ground := Ground.data }, { on := 20, ground := Ground.chain }, { on := 20, ground := Ground.guard }], guard := some (20, true) }) rfl (fun K hK => ?_) AllReadyH.nil
                    go_simp
                    go_at_call 37; refine (HMT.out _).mono ?_; rintro e w7 ⟨rfl, hb2⟩; have HB7 := Lib.hid (HB6.out.trans (hb2.mono hsz2))
                    (try go_wp2_with fail)
                    refine hK.out _ _ (⟨(hb2.cell (p := ⟨Q, k, none⟩) (Nat.lt_of_lt_of_le hQl hsz2)).trans hR1.1, (hb2.cell (p := ⟨b, t * 2, none⟩) (Nat.lt_of_lt_of_le hbl hsz2)).trans hR1.2.1, (hb2.cell (p := ⟨b, t * 2 + 1, none⟩) (Nat.lt_of_lt_of_le hbl hsz2)).trans hR1.2.2.1, (hb2.cell (p := ⟨G, k, none⟩) (Nat.lt_of_lt_of_le hGl hsz2)).trans hR1.2.2.2.1, (hb2.cell (p := ⟨g, t * 2, none⟩) (Nat.lt_of_lt_of_le hgl hsz2)).trans hR1.2.2.2.2.1, (hb2.cell (p := ⟨g, t * 2 + 1, none⟩) (Nat.lt_of_lt_of_le hgl hsz2)).trans hR1.2.2.2.2.2⟩) (fun hR2 => ?_)
                    clear hK K hR1
                    (first | ((fail_if_success (unfold Act.put)); (try simp only [List.setIfInBounds_toArray, List.set_cons_zero, List.set_cons_succ])) | (try simp only [Act.put, List.setIfInBounds_toArray, List.set_cons_zero, List.set_cons_succ]))
                    clear hb2
                    refine wpAnyH_take (i := 31) (oi := { dst := some 119, op := Op.binOp BinOp.eql 31 (Operand.tmp 115) (Operand.tmp 118) 31, type := 4, pos := "apart.go:449", after := #[{ on := 27, ground := Ground.data }, { on := 30, ground := Ground.data }, { on := 20, ground := Ground.guard }], guard := some (20, true) }) (v := ?_) rfl (by kernel_rfl) (by kernel_rfl) (by kernel_rfl) (fun _ _ _ h => h) (Or.inl ⟨by rfl, ?_⟩) (by assumption) ?_
                    rotate_left 1
                    · (intro w hSw; (try dsimp only at hSw); go_simp <;> (with_reducible rfl))
                    (first | ((fail_if_success (unfold Act.put)); (try simp only [List.setIfInBounds_toArray, List.set_cons_zero, List.set_cons_succ])) | (try simp only [Act.put, List.setIfInBounds_toArray, List.set_cons_zero, List.set_cons_succ]))
                    refine wpAnyH_take (i := 32) (oi := { dst := some 120, op := Op.unOp UnOp.not 4 (Operand.tmp 119), type := 4, pos := "apart.go:449", after := #[{ on := 31, ground := Ground.data }, { on := 20, ground := Ground.guard }], guard := some (20, true) }) (v := ?_) rfl (by kernel_rfl) (by kernel_rfl) (by kernel_rfl) (fun _ _ _ h => h) (Or.inl ⟨by rfl, ?_⟩) (by assumption) ?_
                    rotate_left 1
                    · (intro w hSw; (try dsimp only at hSw); go_simp <;> (with_reducible rfl))
                    (first | ((fail_if_success (unfold Act.put)); (try simp only [List.setIfInBounds_toArray, List.set_cons_zero, List.set_cons_succ])) | (try simp only [Act.put, List.setIfInBounds_toArray, List.set_cons_zero, List.set_cons_succ]))
                    refine wpAnyH_take (i := 33) (oi := { dst := some 121, op := Op.pick (Operand.tmp 108) (Operand.tmp 120) (Operand.const (Value.bool false)), type := 4, pos := "apart.go:449", after := #[{ on := 20, ground := Ground.data }, { on := 32, ground := Ground.data }, { on := 12, ground := Ground.guard }], guard := some (12, false) }) (v := ?_) rfl (by kernel_rfl) (by kernel_rfl) (by kernel_rfl) (fun _ _ _ h => h) (Or.inl ⟨by rfl, ?_⟩) (by assumption) ?_
                    rotate_left 1
                    · (intro w hSw; (try dsimp only at hSw); go_simp <;> (with_reducible rfl))
                    (first | ((fail_if_success (unfold Act.put)); (try simp only [List.setIfInBounds_toArray, List.set_cons_zero, List.set_cons_succ])) | (try simp only [Act.put, List.setIfInBounds_toArray, List.set_cons_zero, List.set_cons_succ]))
                    refine wpAnyH_take (i := 34) (oi := { dst := some 122, op := Op.pick (Operand.tmp 100) (Operand.const (Value.bool true)) (Operand.tmp 121), type := 4, pos := "apart.go:449", after := #[{ on := 12, ground := Ground.data }, { on := 33, ground := Ground.data }], guard := none }) (v := ?_) rfl (by kernel_rfl) (by kernel_rfl) (by kernel_rfl) (fun _ _ _ h => h) (Or.inl ⟨by rfl, ?_⟩) (by assumption) ?_
                    rotate_left 1
                    · (intro w hSw; (try dsimp only at hSw); go_simp <;> (with_reducible rfl))
                    (first | ((fail_if_success (unfold Act.put)); (try simp only [List.setIfInBounds_toArray, List.set_cons_zero, List.set_cons_succ])) | (try simp only [Act.put, List.setIfInBounds_toArray, List.set_cons_zero, List.set_cons_succ]))
                    refine wpAnyH_done (by kernel_rfl) ?_ _
                    refine NoPanic.normal ?_
                    clear hR2
                    go_wp2
                    go_roundw
                    case rel => (repeat apply Exists.intro); refine ⟨?_, rfl⟩; exact ⟨t + 1, by omega, by go_num, HB7⟩
                    case measure => simp [intOf]; omega
                  · have ht8 : ¬ (t : Int) < (n k : Int) := by omega
                    clear hcs hz
                    go_wp2_with fail
                    refine wp_region_noPanic ?_
                    refine wp_region_held_drew (S := (fun w' => w'.cell? ⟨Q, k, none⟩ = some (.slice (some ⟨b, 0, none⟩) (n k + 64) c) ∧ w'.cell? ⟨b, t * 2, none⟩ = some (.int .i64 z) ∧ w'.cell? ⟨b, t * 2 + 1, none⟩ = some (.int .i64 0) ∧ w'.cell? ⟨G, k, none⟩ = some (.slice (A k) (n k) (C k)))) (by kernel_rfl) ⟨cq, e1, e2, c0⟩ (fun hR0 => ?_)
                    change wpAnyH _ _ _ _ _ 35 #[false, false, false, false, false, false, false, false, false, false, false, false, false, false, false, false, false, false, false, false, false, false, false, false, false, false, false, false, false, false, false, false, false, false, false] _ _
                    clear cq e1 e2 c0
                    refine wpAnyH_take (i := 0) (oi := { dst := some 88, op := Op.move (Operand.tmp 5), type := 40, pos := "apart.go:449", after := #[], guard := none }) (v := ?_) rfl (by kernel_rfl) (by kernel_rfl) (by kernel_rfl) (fun _ _ _ h => h) (Or.inl ⟨by rfl, ?_⟩) (by assumption) ?_
                    rotate_left 1
                    · (intro w hSw; (try dsimp only at hSw); go_simp <;> (with_reducible rfl))
                    (first | ((fail_if_success (unfold Act.put)); (try simp only [List.setIfInBounds_toArray, List.set_cons_zero, List.set_cons_succ])) | (try simp only [Act.put, List.setIfInBounds_toArray, List.set_cons_zero, List.set_cons_succ]))
                    refine wpAnyH_take (i := 1) (oi := { dst := some 89, op := Op.move (Operand.tmp 9), type := 3, pos := "apart.go:449", after := #[], guard := none }) (v := ?_) rfl (by kernel_rfl) (by kernel_rfl) (by kernel_rfl) (fun _ _ _ h => h) (Or.inl ⟨by rfl, ?_⟩) (by assumption) ?_
                    rotate_left 1
                    · (intro w hSw; (try dsimp only at hSw); go_simp <;> (with_reducible rfl))
                    (first | ((fail_if_success (unfold Act.put)); (try simp only [List.setIfInBounds_toArray, List.set_cons_zero, List.set_cons_succ])) | (try simp only [Act.put, List.setIfInBounds_toArray, List.set_cons_zero, List.set_cons_succ]))
                    refine wpAnyH_take (i := 2) (oi := { dst := some 90, op := Op.indexAddr 40 (Operand.tmp 88) (Operand.tmp 89), type := 0, pos := "apart.go:449", after := #[{ on := 0, ground := Ground.data }, { on := 1, ground := Ground.data }], guard := none }) (v := ?_) rfl (by kernel_rfl) (by kernel_rfl) (by kernel_rfl) (fun _ _ _ h => h) (Or.inl ⟨by rfl, ?_⟩) (by assumption) ?_
                    rotate_left 1
                    · (intro w hSw; (try dsimp only at hSw); go_simp <;> (with_reducible rfl))
                    (first | ((fail_if_success (unfold Act.put)); (try simp only [List.setIfInBounds_toArray, List.set_cons_zero, List.set_cons_succ])) | (try simp only [Act.put, List.setIfInBounds_toArray, List.set_cons_zero, List.set_cons_succ]))
                    refine wpAnyH_take (i := 3) (oi := { dst := some 91, op := Op.load 22 (Operand.tmp 90), type := 22, pos := "apart.go:449", after := #[{ on := 2, ground := Ground.data }], guard := none }) (v := ?_) rfl (by kernel_rfl) (by kernel_rfl) (by kernel_rfl) (fun _ _ _ h => h) (Or.inl ⟨by rfl, ?_⟩) (by assumption) ?_
                    rotate_left 1
                    · (intro w hSw; (try dsimp only at hSw); go_simp <;> (with_reducible rfl))
                    (first | ((fail_if_success (unfold Act.put)); (try simp only [List.setIfInBounds_toArray, List.set_cons_zero, List.set_cons_succ])) | (try simp only [Act.put, List.setIfInBounds_toArray, List.set_cons_zero, List.set_cons_succ]))
                    refine wpAnyH_take (i := 4) (oi := { dst := some 92, op := Op.move (Operand.tmp 10), type := 3, pos := "apart.go:449", after := #[], guard := none }) (v := ?_) rfl (by kernel_rfl) (by kernel_rfl) (by kernel_rfl) (fun _ _ _ h => h) (Or.inl ⟨by rfl, ?_⟩) (by assumption) ?_
                    rotate_left 1
                    · (intro w hSw; (try dsimp only at hSw); go_simp <;> (with_reducible rfl))
                    (first | ((fail_if_success (unfold Act.put)); (try simp only [List.setIfInBounds_toArray, List.set_cons_zero, List.set_cons_succ])) | (try simp only [Act.put, List.setIfInBounds_toArray, List.set_cons_zero, List.set_cons_succ]))
                    refine wpAnyH_take (i := 5) (oi := { dst := some 93, op := Op.indexAddr 22 (Operand.tmp 91) (Operand.tmp 92), type := 0, pos := "apart.go:449", after := #[{ on := 3, ground := Ground.data }, { on := 4, ground := Ground.data }], guard := none }) (v := ?_) rfl (by kernel_rfl) (by kernel_rfl) (by kernel_rfl) (fun _ _ _ h => h) (Or.inl ⟨by rfl, ?_⟩) (by assumption) ?_
                    rotate_left 1
                    · (intro w hSw; (try dsimp only at hSw); go_simp <;> (with_reducible rfl))
                    (first | ((fail_if_success (unfold Act.put)); (try simp only [List.setIfInBounds_toArray, List.set_cons_zero, List.set_cons_succ])) | (try simp only [Act.put, List.setIfInBounds_toArray, List.set_cons_zero, List.set_cons_succ]))
                    refine wpAnyH_take (i := 6) (oi := { dst := some 94, op := Op.load 31 (Operand.tmp 93), type := 31, pos := "apart.go:449", after := #[{ on := 5, ground := Ground.data }], guard := none }) (v := ?_) rfl (by kernel_rfl) (by kernel_rfl) (by kernel_rfl) (fun _ _ _ h => h) (Or.inl ⟨by rfl, ?_⟩) (by assumption) ?_
                    rotate_left 1
                    · (intro w hSw; (try dsimp only at hSw); go_simp <;> (with_reducible rfl))
                    (first | ((fail_if_success (unfold Act.put)); (try simp only [List.setIfInBounds_toArray, List.set_cons_zero, List.set_cons_succ])) | (try simp only [Act.put, List.setIfInBounds_toArray, List.set_cons_zero, List.set_cons_succ]))
                    refine wpAnyH_take (i := 7) (oi := { dst := some 95, op := Op.move (Operand.tmp 9), type := 3, pos := "apart.go:449", after := #[], guard := none }) (v := ?_) rfl (by kernel_rfl) (by kernel_rfl) (by kernel_rfl) (fun _ _ _ h => h) (Or.inl ⟨by rfl, ?_⟩) (by assumption) ?_
                    rotate_left 1
                    · (intro w hSw; (try dsimp only at hSw); go_simp <;> (with_reducible rfl))
                    (first | ((fail_if_success (unfold Act.put)); (try simp only [List.setIfInBounds_toArray, List.set_cons_zero, List.set_cons_succ])) | (try simp only [Act.put, List.setIfInBounds_toArray, List.set_cons_zero, List.set_cons_succ]))
                    refine wpAnyH_take (i := 8) (oi := { dst := some 96, op := Op.move (Operand.tmp 10), type := 3, pos := "apart.go:449", after := #[], guard := none }) (v := ?_) rfl (by kernel_rfl) (by kernel_rfl) (by kernel_rfl) (fun _ _ _ h => h) (Or.inl ⟨by rfl, ?_⟩) (by assumption) ?_
                    rotate_left 1
                    · (intro w hSw; (try dsimp only at hSw); go_simp <;> (with_reducible rfl))
                    (first | ((fail_if_success (unfold Act.put)); (try simp only [List.setIfInBounds_toArray, List.set_cons_zero, List.set_cons_succ])) | (try simp only [Act.put, List.setIfInBounds_toArray, List.set_cons_zero, List.set_cons_succ]))
                    refine wpAnyH_ready (rs := [9]) (by kernel_rfl) (by simp) ?_
                    refine AllReadyH.cons (o := { dst := some 97, op := Op.call { callee := Callee.value (Operand.func 37), args := #[Operand.tmp 95, Operand.tmp 96], argTypes := #[3, 3] }, type := 31, pos := "apart.go:449", after := #[{ on := 7, ground := Ground.data }, { on := 8, ground := Ground.data }], guard := none }) rfl (fun K hK => ?_) AllReadyH.nil
                    go_simp
                    go_at_call 37; refine (HMT.out _).mono ?_; rintro e w6 ⟨rfl, hb2⟩; have HB6 := Lib.hid (HB.out.trans (((Below.refl wr.heap.size wr).drew.trans hb2).mono hsz))
                    (try go_wp2_with fail)
                    refine hK.out _ _ (⟨(hb2.cell (p := ⟨Q, k, none⟩) (Nat.lt_of_lt_of_le hQl hsz)).trans hR0.1, (hb2.cell (p := ⟨b, t * 2, none⟩) (Nat.lt_of_lt_of_le hbl hsz)).trans hR0.2.1, (hb2.cell (p := ⟨b, t * 2 + 1, none⟩) (Nat.lt_of_lt_of_le hbl hsz)).trans hR0.2.2.1, (hb2.cell (p := ⟨G, k, none⟩) (Nat.lt_of_lt_of_le hGl hsz)).trans hR0.2.2.2⟩) (fun hR1 => ?_)
                    clear hK K hR0
                    (first | ((fail_if_success (unfold Act.put)); (try simp only [List.setIfInBounds_toArray, List.set_cons_zero, List.set_cons_succ])) | (try simp only [Act.put, List.setIfInBounds_toArray, List.set_cons_zero, List.set_cons_succ]))
                    clear hb2
                    refine wpAnyH_take (i := 10) (oi := { dst := some 98, op := Op.binOp BinOp.eql 31 (Operand.tmp 94) (Operand.tmp 97) 31, type := 4, pos := "apart.go:449", after := #[{ on := 6, ground := Ground.data }, { on := 9, ground := Ground.data }], guard := none }) (v := ?_) rfl (by kernel_rfl) (by kernel_rfl) (by kernel_rfl) (fun _ _ _ h => h) (Or.inl ⟨by rfl, ?_⟩) (by assumption) ?_
                    rotate_left 1
                    · (intro w hSw; (try dsimp only at hSw); go_simp <;> (with_reducible rfl))
                    (first | ((fail_if_success (unfold Act.put)); (try simp only [List.setIfInBounds_toArray, List.set_cons_zero, List.set_cons_succ])) | (try simp only [Act.put, List.setIfInBounds_toArray, List.set_cons_zero, List.set_cons_succ]))
                    refine wpAnyH_take (i := 11) (oi := { dst := some 99, op := Op.unOp UnOp.not 4 (Operand.tmp 98), type := 4, pos := "apart.go:449", after := #[{ on := 10, ground := Ground.data }], guard := none }) (v := ?_) rfl (by kernel_rfl) (by kernel_rfl) (by kernel_rfl) (fun _ _ _ h => h) (Or.inl ⟨by rfl, ?_⟩) (by assumption) ?_
                    rotate_left 1
                    · (intro w hSw; (try dsimp only at hSw); go_simp <;> (with_reducible rfl))
                    (first | ((fail_if_success (unfold Act.put)); (try simp only [List.setIfInBounds_toArray, List.set_cons_zero, List.set_cons_succ])) | (try simp only [Act.put, List.setIfInBounds_toArray, List.set_cons_zero, List.set_cons_succ]))
                    refine wpAnyH_take (i := 12) (oi := { dst := some 100, op := Op.move (Operand.tmp 99), type := 4, pos := "apart.go:449", after := #[{ on := 11, ground := Ground.data }, { on := 9, ground := Ground.chain }], guard := none }) (v := ?_) rfl (by kernel_rfl) (by kernel_rfl) (by kernel_rfl) (fun _ _ _ h => h) (Or.inl ⟨by rfl, ?_⟩) (by assumption) ?_
                    rotate_left 1
                    · (intro w hSw; (try dsimp only at hSw); go_simp <;> (with_reducible rfl))
                    (first | ((fail_if_success (unfold Act.put)); (try simp only [List.setIfInBounds_toArray, List.set_cons_zero, List.set_cons_succ])) | (try simp only [Act.put, List.setIfInBounds_toArray, List.set_cons_zero, List.set_cons_succ]))
                    refine wpAnyH_take (i := 13) (oi := { dst := some 101, op := Op.move (Operand.tmp 10), type := 3, pos := "apart.go:449", after := #[{ on := 12, ground := Ground.guard }], guard := some (12, false) }) (v := ?_) rfl (by kernel_rfl) (by kernel_rfl) (by kernel_rfl) (fun _ _ _ h => h) (Or.inl ⟨by rfl, ?_⟩) (by assumption) ?_
                    rotate_left 1
                    · (intro w hSw; (try dsimp only at hSw); go_simp <;> (with_reducible rfl))
                    (first | ((fail_if_success (unfold Act.put)); (try simp only [List.setIfInBounds_toArray, List.set_cons_zero, List.set_cons_succ])) | (try simp only [Act.put, List.setIfInBounds_toArray, List.set_cons_zero, List.set_cons_succ]))
                    refine wpAnyH_take (i := 14) (oi := { dst := some 102, op := Op.move (Operand.tmp 0), type := 40, pos := "apart.go:449", after := #[{ on := 12, ground := Ground.guard }], guard := some (12, false) }) (v := ?_) rfl (by kernel_rfl) (by kernel_rfl) (by kernel_rfl) (fun _ _ _ h => h) (Or.inl ⟨by rfl, ?_⟩) (by assumption) ?_
                    rotate_left 1
                    · (intro w hSw; (try dsimp only at hSw); go_simp <;> (with_reducible rfl))
                    (first | ((fail_if_success (unfold Act.put)); (try simp only [List.setIfInBounds_toArray, List.set_cons_zero, List.set_cons_succ])) | (try simp only [Act.put, List.setIfInBounds_toArray, List.set_cons_zero, List.set_cons_succ]))
                    refine wpAnyH_take (i := 15) (oi := { dst := some 103, op := Op.move (Operand.tmp 9), type := 3, pos := "apart.go:449", after := #[{ on := 12, ground := Ground.guard }], guard := some (12, false) }) (v := ?_) rfl (by kernel_rfl) (by kernel_rfl) (by kernel_rfl) (fun _ _ _ h => h) (Or.inl ⟨by rfl, ?_⟩) (by assumption) ?_
                    rotate_left 1
                    · (intro w hSw; (try dsimp only at hSw); go_simp <;> (with_reducible rfl))
                    (first | ((fail_if_success (unfold Act.put)); (try simp only [List.setIfInBounds_toArray, List.set_cons_zero, List.set_cons_succ])) | (try simp only [Act.put, List.setIfInBounds_toArray, List.set_cons_zero, List.set_cons_succ]))
                    refine wpAnyH_take (i := 16) (oi := { dst := some 104, op := Op.indexAddr 40 (Operand.tmp 102) (Operand.tmp 103), type := 0, pos := "apart.go:449", after := #[{ on := 14, ground := Ground.data }, { on := 15, ground := Ground.data }, { on := 12, ground := Ground.guard }], guard := some (12, false) }) (v := ?_) rfl (by kernel_rfl) (by kernel_rfl) (by kernel_rfl) (fun _ _ _ h => h) (Or.inl ⟨by rfl, ?_⟩) (by assumption) ?_
                    rotate_left 1
                    · (intro w hSw; (try dsimp only at hSw); go_simp <;> (with_reducible rfl))
                    (first | ((fail_if_success (unfold Act.put)); (try simp only [List.setIfInBounds_toArray, List.set_cons_zero, List.set_cons_succ])) | (try simp only [Act.put, List.setIfInBounds_toArray, List.set_cons_zero, List.set_cons_succ]))
                    refine wpAnyH_take (i := 17) (oi := { dst := some 105, op := Op.load 22 (Operand.tmp 104), type := 22, pos := "apart.go:449", after := #[{ on := 16, ground := Ground.data }, { on := 12, ground := Ground.guard }], guard := some (12, false) }) (v := ?_) rfl (by kernel_rfl) (by kernel_rfl) (by kernel_rfl) (fun _ _ _ h => h) (Or.inl ⟨by rfl, ?_⟩) (by assumption) ?_
                    rotate_left 1
                    · (intro w hSw; (try dsimp only at hSw); go_simp <;> (with_reducible rfl))
                    (first | ((fail_if_success (unfold Act.put)); (try simp only [List.setIfInBounds_toArray, List.set_cons_zero, List.set_cons_succ])) | (try simp only [Act.put, List.setIfInBounds_toArray, List.set_cons_zero, List.set_cons_succ]))
                    refine wpAnyH_take (i := 18) (oi := { dst := some 106, op := Op.call { callee := Callee.builtin Builtin.len, args := #[Operand.tmp 105], argTypes := #[22] }, type := 3, pos := "apart.go:449", after := #[{ on := 17, ground := Ground.data }, { on := 12, ground := Ground.guard }], guard := some (12, false) }) (v := ?_) rfl (by kernel_rfl) (by kernel_rfl) (by kernel_rfl) (fun _ _ _ h => h) (Or.inl ⟨by rfl, ?_⟩) (by assumption) ?_
                    rotate_left 1
                    · (intro w hSw; (try dsimp only at hSw); go_simp <;> (with_reducible rfl))
                    (first | ((fail_if_success (unfold Act.put)); (try simp only [List.setIfInBounds_toArray, List.set_cons_zero, List.set_cons_succ])) | (try simp only [Act.put, List.setIfInBounds_toArray, List.set_cons_zero, List.set_cons_succ]))
                    refine wpAnyH_take (i := 19) (oi := { dst := some 107, op := Op.binOp BinOp.lss 3 (Operand.tmp 101) (Operand.tmp 106) 3, type := 4, pos := "apart.go:449", after := #[{ on := 13, ground := Ground.data }, { on := 18, ground := Ground.data }, { on := 12, ground := Ground.guard }], guard := some (12, false) }) (v := ?_) rfl (by kernel_rfl) (by kernel_rfl) (by kernel_rfl) (fun _ _ _ h => h) (Or.inl ⟨by rfl, ?_⟩) (by assumption) ?_
                    rotate_left 1
                    · (intro w hSw; (try dsimp only at hSw); go_simp <;> (with_reducible rfl))
                    (first | ((fail_if_success (unfold Act.put)); (try simp only [List.setIfInBounds_toArray, List.set_cons_zero, List.set_cons_succ])) | (try simp only [Act.put, List.setIfInBounds_toArray, List.set_cons_zero, List.set_cons_succ]))
                    refine wpAnyH_take (i := 20) (oi := { dst := some 108, op := Op.move (Operand.tmp 107), type := 4, pos := "apart.go:449", after := #[{ on := 19, ground := Ground.data }, { on := 12, ground := Ground.chain }, { on := 12, ground := Ground.guard }], guard := some (12, false) }) (v := ?_) rfl (by kernel_rfl) (by kernel_rfl) (by kernel_rfl) (fun _ _ _ h => h) (Or.inl ⟨by rfl, ?_⟩) (by assumption) ?_
                    rotate_left 1
                    · (intro w hSw; (try dsimp only at hSw); go_simp <;> (with_reducible rfl))
                    (first | ((fail_if_success (unfold Act.put)); (try simp only [List.setIfInBounds_toArray, List.set_cons_zero, List.set_cons_succ])) | (try simp only [Act.put, List.setIfInBounds_toArray, List.set_cons_zero, List.set_cons_succ]))
                    refine wpAnyH_take (i := 21) (oi := { dst := some 109, op := Op.move (Operand.tmp 0), type := 40, pos := "apart.go:449", after := #[{ on := 20, ground := Ground.guard }], guard := some (20, true) }) (v := undef) rfl (by kernel_rfl) (by kernel_rfl) (by kernel_rfl) (fun _ _ _ h => h) (Or.inr ⟨by rfl, rfl⟩) (by assumption) ?_
                    (first | ((fail_if_success (unfold Act.put)); (try simp only [List.setIfInBounds_toArray, List.set_cons_zero, List.set_cons_succ])) | (try simp only [Act.put, List.setIfInBounds_toArray, List.set_cons_zero, List.set_cons_succ]))
                    refine wpAnyH_take (i := 22) (oi := { dst := some 110, op := Op.move (Operand.tmp 9), type := 3, pos := "apart.go:449", after := #[{ on := 20, ground := Ground.guard }], guard := some (20, true) }) (v := undef) rfl (by kernel_rfl) (by kernel_rfl) (by kernel_rfl) (fun _ _ _ h => h) (Or.inr ⟨by rfl, rfl⟩) (by assumption) ?_
                    (first | ((fail_if_success (unfold Act.put)); (try simp only [List.setIfInBounds_toArray, List.set_cons_zero, List.set_cons_succ])) | (try simp only [Act.put, List.setIfInBounds_toArray, List.set_cons_zero, List.set_cons_succ]))
                    refine wpAnyH_take (i := 23) (oi := { dst := some 111, op := Op.indexAddr 40 (Operand.tmp 109) (Operand.tmp 110), type := 0, pos := "apart.go:449", after := #[{ on := 21, ground := Ground.data }, { on := 22, ground := Ground.data }, { on := 20, ground := Ground.guard }], guard := some (20, true) }) (v := undef) rfl (by kernel_rfl) (by kernel_rfl) (by kernel_rfl) (fun _ _ _ h => h) (Or.inr ⟨by rfl, rfl⟩) (by assumption) ?_
                    (first | ((fail_if_success (unfold Act.put)); (try simp only [List.setIfInBounds_toArray, List.set_cons_zero, List.set_cons_succ])) | (try simp only [Act.put, List.setIfInBounds_toArray, List.set_cons_zero, List.set_cons_succ]))
                    refine wpAnyH_take (i := 24) (oi := { dst := some 112, op := Op.load 22 (Operand.tmp 111), type := 22, pos := "apart.go:449", after := #[{ on := 23, ground := Ground.data }, { on := 20, ground := Ground.guard }], guard := some (20, true) }) (v := undef) rfl (by kernel_rfl) (by kernel_rfl) (by kernel_rfl) (fun _ _ _ h => h) (Or.inr ⟨by rfl, rfl⟩) (by assumption) ?_
                    (first | ((fail_if_success (unfold Act.put)); (try simp only [List.setIfInBounds_toArray, List.set_cons_zero, List.set_cons_succ])) | (try simp only [Act.put, List.setIfInBounds_toArray, List.set_cons_zero, List.set_cons_succ]))
                    refine wpAnyH_take (i := 25) (oi := { dst := some 113, op := Op.move (Operand.tmp 10), type := 3, pos := "apart.go:449", after := #[{ on := 20, ground := Ground.guard }], guard := some (20, true) }) (v := undef) rfl (by kernel_rfl) (by kernel_rfl) (by kernel_rfl) (fun _ _ _ h => h) (Or.inr ⟨by rfl, rfl⟩) (by assumption) ?_
                    (first | ((fail_if_success (unfold Act.put)); (try simp only [List.setIfInBounds_toArray, List.set_cons_zero, List.set_cons_succ])) | (try simp only [Act.put, List.setIfInBounds_toArray, List.set_cons_zero, List.set_cons_succ]))
                    refine wpAnyH_take (i := 26) (oi := { dst := some 114, op := Op.indexAddr 22 (Operand.tmp 112) (Operand.tmp 113), type := 0, pos := "apart.go:449", after := #[{ on := 24, ground := Ground.data }, { on := 25, ground := Ground.data }, { on := 20, ground := Ground.guard }], guard := some (20, true) }) (v := undef) rfl (by kernel_rfl) (by kernel_rfl) (by kernel_rfl) (fun _ _ _ h => h) (Or.inr ⟨by rfl, rfl⟩) (by assumption) ?_
                    (first | ((fail_if_success (unfold Act.put)); (try simp only [List.setIfInBounds_toArray, List.set_cons_zero, List.set_cons_succ])) | (try simp only [Act.put, List.setIfInBounds_toArray, List.set_cons_zero, List.set_cons_succ]))
                    refine wpAnyH_take (i := 27) (oi := { dst := some 115, op := Op.load 31 (Operand.tmp 114), type := 31, pos := "apart.go:449", after := #[{ on := 26, ground := Ground.data }, { on := 20, ground := Ground.guard }], guard := some (20, true) }) (v := undef) rfl (by kernel_rfl) (by kernel_rfl) (by kernel_rfl) (fun _ _ _ h => h) (Or.inr ⟨by rfl, rfl⟩) (by assumption) ?_
                    (first | ((fail_if_success (unfold Act.put)); (try simp only [List.setIfInBounds_toArray, List.set_cons_zero, List.set_cons_succ])) | (try simp only [Act.put, List.setIfInBounds_toArray, List.set_cons_zero, List.set_cons_succ]))
                    refine wpAnyH_take (i := 28) (oi := { dst := some 116, op := Op.move (Operand.tmp 9), type := 3, pos := "apart.go:449", after := #[{ on := 20, ground := Ground.guard }], guard := some (20, true) }) (v := undef) rfl (by kernel_rfl) (by kernel_rfl) (by kernel_rfl) (fun _ _ _ h => h) (Or.inr ⟨by rfl, rfl⟩) (by assumption) ?_
                    (first | ((fail_if_success (unfold Act.put)); (try simp only [List.setIfInBounds_toArray, List.set_cons_zero, List.set_cons_succ])) | (try simp only [Act.put, List.setIfInBounds_toArray, List.set_cons_zero, List.set_cons_succ]))
                    refine wpAnyH_take (i := 29) (oi := { dst := some 117, op := Op.move (Operand.tmp 10), type := 3, pos := "apart.go:449", after := #[{ on := 20, ground := Ground.guard }], guard := some (20, true) }) (v := undef) rfl (by kernel_rfl) (by kernel_rfl) (by kernel_rfl) (fun _ _ _ h => h) (Or.inr ⟨by rfl, rfl⟩) (by assumption) ?_
                    (first | ((fail_if_success (unfold Act.put)); (try simp only [List.setIfInBounds_toArray, List.set_cons_zero, List.set_cons_succ])) | (try simp only [Act.put, List.setIfInBounds_toArray, List.set_cons_zero, List.set_cons_succ]))
                    refine wpAnyH_take (i := 30) (oi := { dst := some 118, op := Op.call { callee := Callee.value (Operand.func 37), args := #[Operand.tmp 116, Operand.tmp 117], argTypes := #[3, 3] }, type := 31, pos := "apart.go:449", after := #[{ on := 28, ground := Ground.data }, { on := 29, ground := Ground.data }, { on := 20, ground := Ground.chain }, { on := 20, ground := Ground.guard }], guard := some (20, true) }) (v := undef) rfl (by kernel_rfl) (by kernel_rfl) (by kernel_rfl) (fun _ _ _ h => h) (Or.inr ⟨by rfl, rfl⟩) (by assumption) ?_
                    (first | ((fail_if_success (unfold Act.put)); (try simp only [List.setIfInBounds_toArray, List.set_cons_zero, List.set_cons_succ])) | (try simp only [Act.put, List.setIfInBounds_toArray, List.set_cons_zero, List.set_cons_succ]))
                    refine wpAnyH_take (i := 31) (oi := { dst := some 119, op := Op.binOp BinOp.eql 31 (Operand.tmp 115) (Operand.tmp 118) 31, type := 4, pos := "apart.go:449", after := #[{ on := 27, ground := Ground.data }, { on := 30, ground := Ground.data }, { on := 20, ground := Ground.guard }], guard := some (20, true) }) (v := undef) rfl (by kernel_rfl) (by kernel_rfl) (by kernel_rfl) (fun _ _ _ h => h) (Or.inr ⟨by rfl, rfl⟩) (by assumption) ?_
                    (first | ((fail_if_success (unfold Act.put)); (try simp only [List.setIfInBounds_toArray, List.set_cons_zero, List.set_cons_succ])) | (try simp only [Act.put, List.setIfInBounds_toArray, List.set_cons_zero, List.set_cons_succ]))
                    refine wpAnyH_take (i := 32) (oi := { dst := some 120, op := Op.unOp UnOp.not 4 (Operand.tmp 119), type := 4, pos := "apart.go:449", after := #[{ on := 31, ground := Ground.data }, { on := 20, ground := Ground.guard }], guard := some (20, true) }) (v := undef) rfl (by kernel_rfl) (by kernel_rfl) (by kernel_rfl) (fun _ _ _ h => h) (Or.inr ⟨by rfl, rfl⟩) (by assumption) ?_
                    (first | ((fail_if_success (unfold Act.put)); (try simp only [List.setIfInBounds_toArray, List.set_cons_zero, List.set_cons_succ])) | (try simp only [Act.put, List.setIfInBounds_toArray, List.set_cons_zero, List.set_cons_succ]))
                    refine wpAnyH_take (i := 33) (oi := { dst := some 121, op := Op.pick (Operand.tmp 108) (Operand.tmp 120) (Operand.const (Value.bool false)), type := 4, pos := "apart.go:449", after := #[{ on := 20, ground := Ground.data }, { on := 32, ground := Ground.data }, { on := 12, ground := Ground.guard }], guard := some (12, false) }) (v := ?_) rfl (by kernel_rfl) (by kernel_rfl) (by kernel_rfl) (fun _ _ _ h => h) (Or.inl ⟨by rfl, ?_⟩) (by assumption) ?_
                    rotate_left 1
                    · (intro w hSw; (try dsimp only at hSw); go_simp <;> (with_reducible rfl))
                    (first | ((fail_if_success (unfold Act.put)); (try simp only [List.setIfInBounds_toArray, List.set_cons_zero, List.set_cons_succ])) | (try simp only [Act.put, List.setIfInBounds_toArray, List.set_cons_zero, List.set_cons_succ]))
                    refine wpAnyH_take (i := 34) (oi := { dst := some 122, op := Op.pick (Operand.tmp 100) (Operand.const (Value.bool true)) (Operand.tmp 121), type := 4, pos := "apart.go:449", after := #[{ on := 12, ground := Ground.data }, { on := 33, ground := Ground.data }], guard := none }) (v := ?_) rfl (by kernel_rfl) (by kernel_rfl) (by kernel_rfl) (fun _ _ _ h => h) (Or.inl ⟨by rfl, ?_⟩) (by assumption) ?_
                    rotate_left 1
                    · (intro w hSw; (try dsimp only at hSw); go_simp <;> (with_reducible rfl))
                    (first | ((fail_if_success (unfold Act.put)); (try simp only [List.setIfInBounds_toArray, List.set_cons_zero, List.set_cons_succ])) | (try simp only [Act.put, List.setIfInBounds_toArray, List.set_cons_zero, List.set_cons_succ]))
                    refine wpAnyH_done (by kernel_rfl) ?_ _
                    refine NoPanic.normal ?_
                    clear hR1
                    go_wp2
                    go_roundw
                    case rel => (repeat apply Exists.intro); refine ⟨?_, rfl⟩; exact ⟨t + 1, by omega, by go_num, HB6⟩
                    case measure => simp [intOf]; omega
                · obtain rfl : t = n k + 64 := by omega
                  clear hcs
                  go_wp2
                  go_roundw
                  case rel => exact ⟨k + 1, by omega, by go_num, HB⟩
                  case measure => simp [intOf]; omega
            · obtain rfl : k = 3 := by omega
              have HZ6 := Lib.hid (HZ.out.kept (grown_of_below HB.out) (Classical.em _))
              have HF6 := Lib.hid (HF.out.on HB.out (Nat.le_trans hN HF.out.sz))
              clear HJ HZ HF HB
              go_wp2_with fail
              go_loopw [11] (fun i wr => ∃ (k : Nat) (Z : List Value), k ≤ 3 ∧ i = .int .i64 k ∧ Z.length = 3 ∧ Hid (wr.ownsRow W0.heap.size 22 1 (.slice (some ⟨Q, 0, none⟩) 3 3) 3 Z) ∧ Hid (Fs N W0 wr A n C (fun j => mkR j (n j))) ∧ Hid (∀ j, j < k → ∃ g l, Z[j]? = some g ∧ l.take (n j) = mkR j (n j) ∧ Gat N W0.heap.size wr (A j) (C j) g (n j + 64) l)) (fun i _ => 3 - (intOf i).toNat)
              case atStart => exact ⟨0, Z, by omega, rfl, hZl, HZ6, HF6, Lib.hid (fun j hj => by omega)⟩
              case round =>
                clear HZ6 HF6 hG5 hZl
                obtain ⟨k, Z, hk, rfl, hZl, HZ, HF, HJ⟩ := hrel
                obtain ⟨w7, hw7⟩ : ∃ w7, w7 = wr := ⟨_, rfl⟩
                subst hw7
                by_cases hk3 : k < 3
                · have hk9 : (k : Int) < 3 := by omega
                  have hnk := HNN.out k hk3
                  obtain ⟨S, hS⟩ : ∃ S, w7.heap.size = S := ⟨_, rfl⟩
                  have HS := Lib.hid hS
                  have hS0 : W0.heap.size ≤ S := by rw [← hS]; exact HF.out.sz
                  have hQS : Q < S := by rw [← hS]; exact (HZ.out.lt Q rfl).2
                  have hAQ : (Value.slice (A k) (n k) (C k)).ownBlock ≠ some Q := fun e => by have := HF.out.old k hk3 Q e; omega
                  have hSle : S ≤ w7.heap.size := by omega
                  obtain ⟨u, hu⟩ : ∃ u, Z[k]? = some u := ⟨Z[k]'(by omega), by simp [show k < Z.length by omega]⟩
                  have HU := Lib.hid hu
                  clear hS hu
                  go_wp2_with (at_make; refine wpList_make_full _ rfl _ _ 22 rfl S 31 i0 (.agg #[.int .i64 0, .int .i64 0]) 2 Tryz.underlying22 hi hz0 hz1 _ _ _ _ 64 rfl rfl rfl rfl (by rw [hz2]; omega) (by unfold maxLen; omega) hSle ?_; intro w8 hown hgrow)
                  rw [HS.out, spans_made] at hown
                  try rw [HS.out]
                  have HM0 := Lib.hid hown
                  have HB0 := Lib.hid ((Below.refl S w7).grown hgrow hSle (fun k e => by cases e))
                  clear hown hgrow
                  go_loopw [13] (fun i wx => ∃ (t : Nat) (lm : L), t ≤ 64 ∧ i = .int .i64 t ∧ lm.length = 64 ∧ Hid (wx.ownsRow S 31 2 (.slice (some ⟨S, 0, none⟩) 64 64) 64 (cellsS lm)) ∧ Hid (Below S w7 wx)) (fun i _ => 64 - (intOf i).toNat)
                  case atStart => exact ⟨0, _, by omega, rfl, by simp, HM0, HB0⟩
                  case round =>
                    clear HM0 HB0
                    obtain ⟨t, lm, ht, rfl, hlm, HMX, HB⟩ := hrel
                    by_cases ht64 : t < 64
                    · have ht9 : (t : Int) < 64 := by omega
                      have q5 : IntKind.i64.wrap ((k : Int) + 3) = (k : Int) + 3 := IntWalk.i64_in _ (by omega)
                      have HMT := Lib.hid (fun W => markSpanW_any ((k : Int) + 3) (t : Int) (by omega) (by omega) W)
                      obtain ⟨z, hz⟩ : ∃ z, mk ((k : Int) + 3) t = z := ⟨_, rfl⟩
                      rw [hz] at HMT
                      clear hz
                      go_wp2_with fail
                      refine (HMT.out _).mono ?_
                      rintro e w9 ⟨rfl, hb2⟩
                      have hrow := HMX.out.kept (grown_of_below hb2) (Classical.em _)
                      obtain ⟨x1, x2⟩ := cellsS_get lm t (by omega)
                      have e1 := (hrow.cellAt (t * 2) (by omega)).trans x1
                      have e2 := (hrow.cellAt (t * 2 + 1) (by omega)).trans x2
                      have f1 := hrow.frozenAt (t * 2)
                      have f2 := hrow.frozenAt (t * 2 + 1)
                      have HROW := Lib.hid hrow
                      have HB9 := Lib.hid (HB.out.trans (hb2.mono (Nat.le_trans hSle HB.out.size)))
                      clear hrow x1 x2 hb2
                      have hrow2 := ((HROW.out.stored (t * 2) (.int .i64 z)).1.stored (t * 2 + 1) (.int .i64 0)).1
                      rw [cellsS_put _ _ _ _ (by omega)] at hrow2
                      have HM2 := Lib.hid hrow2
                      have HB2 := Lib.hid ((HB9.out.setCell (p := ⟨S, t * 2, none⟩) (Nat.le_refl _) (.int .i64 z)).setCell (p := ⟨S, t * 2 + 1, none⟩) (Nat.le_refl _) (.int .i64 0))
                      clear hrow2 HROW HB9 HB HMX q5
                      go_wp2
                      go_roundw
                      case rel => exact ⟨t + 1, _, by omega, by go_num, by rw [List.length_set]; exact hlm, HM2, HB2⟩
                      case measure => simp [intOf]; omega
                    · obtain rfl : t = 64 := by omega
                      have hBr : Below w7.heap.size w7 wr := by rw [HS.out]; exact HB.out
                      have HF8 := Lib.hid (HF.out.on hBr (Nat.le_trans hN HF.out.sz))
                      have HZ8 := Lib.hid (HZ.out.kept (grown_of_below hBr) (Classical.em _))
                      have HJ8 : Hid (∀ j, j < k → ∃ g l, Z[j]? = some g ∧ l.take (n j) = mkR j (n j) ∧ Gat N W0.heap.size wr (A j) (C j) g (n j + 64) l) := Lib.hid (fun j hj => by
                        obtain ⟨g, l, h1, h2, h3⟩ := HJ.out j hj
                        exact ⟨g, l, h1, h2, h3.on hBr⟩)
                      obtain ⟨S8, hS8⟩ : ∃ S8, wr.heap.size = S8 := ⟨_, rfl⟩
                      have HS8 := Lib.hid hS8
                      have hS80 : W0.heap.size ≤ S8 := by rw [← hS8]; exact HF8.out.sz
                      have hQS8 : Q < S8 := by rw [← hS8]; exact (HZ8.out.lt Q rfl).2
                      have hS8w : S8 ≤ wr.heap.size := by omega
                      have HG8 : Hid (Gat N S8 wr (A k) (C k) (.slice (A k) (n k) (C k)) (n k) (mkR k (n k))) := Lib.hid ⟨(HF8.out.row k hk3).2, .inl rfl⟩
                      have HCL := Lib.hid (fun j u (h : (cellsS lm)[j]? = some u) => HMX.out.cells (g := S) rfl j u h)
                      have HTK : Hid ((mkR k (n k)).take (n k) = mkR k (n k)) := Lib.hid (List.take_of_length_le (by rw [mkR_length]; exact Nat.le_refl _))
                      have c1 := HF8.out.lsc hG HGN.out (HC.out k hk3)
                      clear hBr hS8 HF HZ HJ HB
                      go_wp2_with (at_builtin; refine g_append rfl _ _ rfl hN HF8.out hk3 (Nat.le_refl (n k)) _ rfl (mkR k (n k)) lm HTK.out HG8.out ⟨S, 0, none⟩ rfl hlm HCL.out hS80 hS8w (by omega) ?_; intro g' w9 hF9 hG9 hfr9 hS9; obtain ⟨ga, gc, rfl⟩ := own_slice hG9.1; have hz9 := own_same HZ8.out (fun b (hb : (Value.slice (some ⟨Q, 0, none⟩) 3 3).ownBlock = some b) => hfr9 b (by obtain rfl : Q = b := (by simpa [Value.ownBlock] using hb); exact hQS8) (by obtain rfl : Q = b := (by simpa [Value.ownBlock] using hb); exact hAQ)); have cq := (hz9.cellAt k (by omega)).trans HU.out; have fq := hz9.frozenAt k; have HZ9 := Lib.hid hz9; have HF9 := Lib.hid hF9; have HG9 := Lib.hid hG9; have HR9 := Lib.hid hfr9; clear hz9 hF9 hG9 hfr9)
                      have oth : ∀ g m l (j : Nat), Gat N W0.heap.size w9 (A j) (C j) g m l → Gat N W0.heap.size (w9.setCell ⟨Q, k, none⟩ (.slice ga (n k + 64) gc)) (A j) (C j) g m l := fun g m l j h => h.same (fun b hb _ => heap_setCell_other _ ⟨Q, k, none⟩ b _ (fun e => own_ne h.1 HZ9.out (by decide) hb (by rw [e]; rfl)))
                      have HZ2 := Lib.hid (HZ9.out.stored k (.slice ga (n k + 64) gc)).1
                      have HF2 := Lib.hid (HF9.out.side (grown_set w9 Q k (.slice ga (n k + 64) gc)) hQ0 hN)
                      have HJ2 : Hid (∀ j, j < k + 1 → ∃ g l, (Z.set k (.slice ga (n k + 64) gc))[j]? = some g ∧ l.take (n j) = mkR j (n j) ∧ Gat N W0.heap.size (w9.setCell ⟨Q, k, none⟩ (.slice ga (n k + 64) gc)) (A j) (C j) g (n j + 64) l) := Lib.hid (fun j hj => by
                        by_cases e : j = k
                        · subst e
                          exact ⟨_, _, List.getElem?_set_self (by omega), by rw [List.take_append_of_le_length (by rw [mkR_length]; exact Nat.le_refl _)]; exact HTK.out, oth _ _ _ _ ⟨HG9.out.1, HG9.out.2.imp id (fun h => own_mono h hS80)⟩⟩
                        · obtain ⟨g, l, h1, h2, h3⟩ := HJ8.out j (by omega)
                          exact ⟨g, l, by rw [List.getElem?_set_ne (fun h => e h.symm)]; exact h1, h2, oth _ _ _ _ (h3.keep HF8.out (by omega) hk3 e (Nat.le_refl _) (by rw [HS8.out]; exact Nat.le_refl _) HR9.out)⟩)
                      clear oth HF8 HZ8 HJ8 HG8 HCL HTK c1 HZ9 HF9 HG9 HR9
                      go_wp2
                      go_roundw
                      case rel => (repeat apply Exists.intro); refine ⟨?_, rfl⟩; exact ⟨k + 1, _, by omega, by go_num, by rw [List.length_set]; exact hZl, HZ2, HF2, HJ2⟩
                      case measure => simp [intOf]; omega
                · obtain rfl : k = 3 := by omega
                  have hG7 : G < w7.heap.size := Nat.lt_of_lt_of_le hG HF.out.sz
                  go_wp2_with fail
                  go_loopw [14] (fun i wr => ∃ k : Nat, k ≤ 3 ∧ i = .int .i64 k ∧ Hid (Below w7.heap.size w7 wr)) (fun i _ => 3 - (intOf i).toNat)
                  case atStart => exact ⟨0, by omega, rfl, Lib.hid (Below.refl _ _)⟩
                  case round =>
                    obtain ⟨k, hk, rfl, HB⟩ := hrel
                    by_cases hk3 : k < 3
                    · have hk9 : (k : Int) < 3 := by omega
                      have hnk := HNN.out k hk3
                      obtain ⟨g, lx, hgZ, hlx, hgat⟩ := HJ.out k hk3
                      have HLX := Lib.hid hlx
                      have HRD := Lib.hid (fun W' (hb : Below w7.heap.size w7 W') => read_ext HZ.out hk3 hgZ hgat (show 0 < n k + 64 by omega) hb)
                      have c0 := (HB.out.cell (p := ⟨G, k, none⟩) hG7).trans (HF.out.lsc hG HGN.out (HC.out k hk3))
                      clear hgZ hgat hlx
                      go_wp2_with fail
                      clear c0
                      go_loopw [15] (fun i wr => ∃ t : Nat, t ≤ n k ∧ i = .int .i64 t ∧ Hid (Below w7.heap.size w7 wr)) (fun i _ => n k - (intOf i).toNat)
                      case atStart => exact ⟨0, by omega, rfl, HB⟩
                      case round =>
                        clear HB
                        obtain ⟨t, ht, rfl, HB⟩ := hrel
                        have c0 := (HB.out.cell (p := ⟨G, k, none⟩) hG7).trans (HF.out.lsc hG HGN.out (HC.out k hk3))
                        by_cases htn : t < n k
                        · have ht8 : (t : Int) < (n k : Int) := by omega
                          have ht9 : (t : Int) < (n k : Int) + 64 := by omega
                          obtain ⟨b, c, cq, hbl, hQl, hmc, hcs⟩ := HRD.out _ HB.out
                          obtain ⟨e1, e2⟩ := hcs t (by omega)
                          have hlt : lx[t]?.getD (0, 0) = (mk k t, 0) := by
                            rw [← mkR_get (k := k) htn, ← HLX.out, List.getElem?_take_of_lt htn]
                          rw [hlt] at e1 e2
                          simp only at e1 e2
                          obtain ⟨g, hgA, hgl, hgc, hgs⟩ := fs_read (k := k) HF.out hk3 (by omega) HB.out
                          obtain ⟨e3, e4⟩ := hgs t htn
                          simp only [mkR_get htn] at e3 e4
                          have HMT := Lib.hid (fun W => HM.out k t hk3 (by omega) W)
                          obtain ⟨z, hz⟩ : ∃ z, mk k t = z := ⟨_, rfl⟩
                          rw [hz] at e1 e3 HMT
                          rw [hgA] at c0
                          have hGl := hG7
                          have hsz := HB.out.size
                          clear hcs hgs hz hlt
                          go_wp2_with fail
                          refine wp_region_noPanic ?_
                          refine wp_region_held_drew (S := (fun w' => w'.cell? ⟨Q, k, none⟩ = some (.slice (some ⟨b, 0, none⟩) (n k + 64) c) ∧ w'.cell? ⟨b, t * 2, none⟩ = some (.int .i64 z) ∧ w'.cell? ⟨b, t * 2 + 1, none⟩ = some (.int .i64 0) ∧ w'.cell? ⟨G, k, none⟩ = some (.slice (some ⟨g, 0, none⟩) (n k) (C k)) ∧ w'.cell? ⟨g, t * 2, none⟩ = some (.int .i64 z) ∧ w'.cell? ⟨g, t * 2 + 1, none⟩ = some (.int .i64 0))) (by kernel_rfl) ⟨cq, e1, e2, c0, e3, e4⟩ (fun hR0 => ?_)
                          change wpAnyH _ _ _ _ _ 26 #[false, false, false, false, false, false, false, false, false, false, false, false, false, false, false, false, false, false, false, false, false, false, false, false, false, false] _ _
                          clear cq e1 e2 c0 e3 e4
                          refine wpAnyH_take (i := 0) (oi := { dst := some 167, op := Op.move (Operand.tmp 0), type := 40, pos := "apart.go:463", after := #[], guard := none }) (v := ?_) rfl (by kernel_rfl) (by kernel_rfl) (by kernel_rfl) (fun _ _ _ h => h) (Or.inl ⟨by rfl, ?_⟩) (by assumption) ?_
                          rotate_left 1
                          · (intro w hSw; (try dsimp only at hSw); go_simp <;> (with_reducible rfl))
                          (first | ((fail_if_success (unfold Act.put)); (try simp only [List.setIfInBounds_toArray, List.set_cons_zero, List.set_cons_succ])) | (try simp only [Act.put, List.setIfInBounds_toArray, List.set_cons_zero, List.set_cons_succ]))
                          refine wpAnyH_take (i := 1) (oi := { dst := some 168, op := Op.move (Operand.tmp 14), type := 3, pos := "apart.go:463", after := #[], guard := none }) (v := ?_) rfl (by kernel_rfl) (by kernel_rfl) (by kernel_rfl) (fun _ _ _ h => h) (Or.inl ⟨by rfl, ?_⟩) (by assumption) ?_
                          rotate_left 1
                          · (intro w hSw; (try dsimp only at hSw); go_simp <;> (with_reducible rfl))
                          (first | ((fail_if_success (unfold Act.put)); (try simp only [List.setIfInBounds_toArray, List.set_cons_zero, List.set_cons_succ])) | (try simp only [Act.put, List.setIfInBounds_toArray, List.set_cons_zero, List.set_cons_succ]))
                          refine wpAnyH_take (i := 2) (oi := { dst := some 169, op := Op.indexAddr 40 (Operand.tmp 167) (Operand.tmp 168), type := 0, pos := "apart.go:463", after := #[{ on := 0, ground := Ground.data }, { on := 1, ground := Ground.data }], guard := none }) (v := ?_) rfl (by kernel_rfl) (by kernel_rfl) (by kernel_rfl) (fun _ _ _ h => h) (Or.inl ⟨by rfl, ?_⟩) (by assumption) ?_
                          rotate_left 1
                          · (intro w hSw; (try dsimp only at hSw); go_simp <;> (with_reducible rfl))
                          (first | ((fail_if_success (unfold Act.put)); (try simp only [List.setIfInBounds_toArray, List.set_cons_zero, List.set_cons_succ])) | (try simp only [Act.put, List.setIfInBounds_toArray, List.set_cons_zero, List.set_cons_succ]))
                          refine wpAnyH_take (i := 3) (oi := { dst := some 170, op := Op.load 22 (Operand.tmp 169), type := 22, pos := "apart.go:463", after := #[{ on := 2, ground := Ground.data }], guard := none }) (v := ?_) rfl (by kernel_rfl) (by kernel_rfl) (by kernel_rfl) (fun _ _ _ h => h) (Or.inl ⟨by rfl, ?_⟩) (by assumption) ?_
                          rotate_left 1
                          · (intro w hSw; (try dsimp only at hSw); go_simp <;> (with_reducible rfl))
                          (first | ((fail_if_success (unfold Act.put)); (try simp only [List.setIfInBounds_toArray, List.set_cons_zero, List.set_cons_succ])) | (try simp only [Act.put, List.setIfInBounds_toArray, List.set_cons_zero, List.set_cons_succ]))
                          refine wpAnyH_take (i := 4) (oi := { dst := some 171, op := Op.move (Operand.tmp 15), type := 3, pos := "apart.go:463", after := #[], guard := none }) (v := ?_) rfl (by kernel_rfl) (by kernel_rfl) (by kernel_rfl) (fun _ _ _ h => h) (Or.inl ⟨by rfl, ?_⟩) (by assumption) ?_
                          rotate_left 1
                          · (intro w hSw; (try dsimp only at hSw); go_simp <;> (with_reducible rfl))
                          (first | ((fail_if_success (unfold Act.put)); (try simp only [List.setIfInBounds_toArray, List.set_cons_zero, List.set_cons_succ])) | (try simp only [Act.put, List.setIfInBounds_toArray, List.set_cons_zero, List.set_cons_succ]))
                          refine wpAnyH_take (i := 5) (oi := { dst := some 172, op := Op.indexAddr 22 (Operand.tmp 170) (Operand.tmp 171), type := 0, pos := "apart.go:463", after := #[{ on := 3, ground := Ground.data }, { on := 4, ground := Ground.data }], guard := none }) (v := ?_) rfl (by kernel_rfl) (by kernel_rfl) (by kernel_rfl) (fun _ _ _ h => h) (Or.inl ⟨by rfl, ?_⟩) (by assumption) ?_
                          rotate_left 1
                          · (intro w hSw; (try dsimp only at hSw); go_simp <;> (with_reducible rfl))
                          (first | ((fail_if_success (unfold Act.put)); (try simp only [List.setIfInBounds_toArray, List.set_cons_zero, List.set_cons_succ])) | (try simp only [Act.put, List.setIfInBounds_toArray, List.set_cons_zero, List.set_cons_succ]))
                          refine wpAnyH_take (i := 6) (oi := { dst := some 173, op := Op.load 31 (Operand.tmp 172), type := 31, pos := "apart.go:463", after := #[{ on := 5, ground := Ground.data }], guard := none }) (v := ?_) rfl (by kernel_rfl) (by kernel_rfl) (by kernel_rfl) (fun _ _ _ h => h) (Or.inl ⟨by rfl, ?_⟩) (by assumption) ?_
                          rotate_left 1
                          · (intro w hSw; (try dsimp only at hSw); go_simp <;> (with_reducible rfl))
                          (first | ((fail_if_success (unfold Act.put)); (try simp only [List.setIfInBounds_toArray, List.set_cons_zero, List.set_cons_succ])) | (try simp only [Act.put, List.setIfInBounds_toArray, List.set_cons_zero, List.set_cons_succ]))
                          refine wpAnyH_take (i := 7) (oi := { dst := some 174, op := Op.move (Operand.tmp 14), type := 3, pos := "apart.go:463", after := #[], guard := none }) (v := ?_) rfl (by kernel_rfl) (by kernel_rfl) (by kernel_rfl) (fun _ _ _ h => h) (Or.inl ⟨by rfl, ?_⟩) (by assumption) ?_
                          rotate_left 1
                          · (intro w hSw; (try dsimp only at hSw); go_simp <;> (with_reducible rfl))
                          (first | ((fail_if_success (unfold Act.put)); (try simp only [List.setIfInBounds_toArray, List.set_cons_zero, List.set_cons_succ])) | (try simp only [Act.put, List.setIfInBounds_toArray, List.set_cons_zero, List.set_cons_succ]))
                          refine wpAnyH_take (i := 8) (oi := { dst := some 175, op := Op.move (Operand.tmp 15), type := 3, pos := "apart.go:463", after := #[], guard := none }) (v := ?_) rfl (by kernel_rfl) (by kernel_rfl) (by kernel_rfl) (fun _ _ _ h => h) (Or.inl ⟨by rfl, ?_⟩) (by assumption) ?_
                          rotate_left 1
                          · (intro w hSw; (try dsimp only at hSw); go_simp <;> (with_reducible rfl))
                          (first | ((fail_if_success (unfold Act.put)); (try simp only [List.setIfInBounds_toArray, List.set_cons_zero, List.set_cons_succ])) | (try simp only [Act.put, List.setIfInBounds_toArray, List.set_cons_zero, List.set_cons_succ]))
                          refine wpAnyH_ready (rs := [9]) (by kernel_rfl) (by simp) ?_
                          refine AllReadyH.cons (o := { dst := some 176, op := Op.call { callee := Callee.value (Operand.func 37), args := #[Operand.tmp 174, Operand.tmp 175], argTypes := #[3, 3] }, type := 31, pos := "apart.go:463", after := #[{ on := 7, ground := Ground.data }, { on := 8, ground := Ground.data }], guard := none }) rfl (fun K hK => ?_) AllReadyH.nil
                          go_simp
                          go_at_call 37; refine (HMT.out _).mono ?_; rintro e w8 ⟨rfl, hb2⟩; have hsz2 := Nat.le_trans hsz hb2.size; have HB8 := Lib.hid (HB.out.trans (((Below.refl wr.heap.size wr).drew.trans hb2).mono hsz))
                          (try go_wp2_with fail)
                          refine hK.out _ _ (⟨(hb2.cell (p := ⟨Q, k, none⟩) (Nat.lt_of_lt_of_le hQl hsz)).trans hR0.1, (hb2.cell (p := ⟨b, t * 2, none⟩) (Nat.lt_of_lt_of_le hbl hsz)).trans hR0.2.1, (hb2.cell (p := ⟨b, t * 2 + 1, none⟩) (Nat.lt_of_lt_of_le hbl hsz)).trans hR0.2.2.1, (hb2.cell (p := ⟨G, k, none⟩) (Nat.lt_of_lt_of_le hGl hsz)).trans hR0.2.2.2.1, (hb2.cell (p := ⟨g, t * 2, none⟩) (Nat.lt_of_lt_of_le hgl hsz)).trans hR0.2.2.2.2.1, (hb2.cell (p := ⟨g, t * 2 + 1, none⟩) (Nat.lt_of_lt_of_le hgl hsz)).trans hR0.2.2.2.2.2⟩) (fun hR1 => ?_)
                          clear hK K hR0
                          (first | ((fail_if_success (unfold Act.put)); (try simp only [List.setIfInBounds_toArray, List.set_cons_zero, List.set_cons_succ])) | (try simp only [Act.put, List.setIfInBounds_toArray, List.set_cons_zero, List.set_cons_succ]))
                          clear hb2
                          refine wpAnyH_take (i := 10) (oi := { dst := some 177, op := Op.binOp BinOp.eql 31 (Operand.tmp 173) (Operand.tmp 176) 31, type := 4, pos := "apart.go:463", after := #[{ on := 6, ground := Ground.data }, { on := 9, ground := Ground.data }], guard := none }) (v := ?_) rfl (by kernel_rfl) (by kernel_rfl) (by kernel_rfl) (fun _ _ _ h => h) (Or.inl ⟨by rfl, ?_⟩) (by assumption) ?_
                          rotate_left 1
                          · (intro w hSw; (try dsimp only at hSw); go_simp <;> (with_reducible rfl))
                          (first | ((fail_if_success (unfold Act.put)); (try simp only [List.setIfInBounds_toArray, List.set_cons_zero, List.set_cons_succ])) | (try simp only [Act.put, List.setIfInBounds_toArray, List.set_cons_zero, List.set_cons_succ]))
                          refine wpAnyH_take (i := 11) (oi := { dst := some 178, op := Op.unOp UnOp.not 4 (Operand.tmp 177), type := 4, pos := "apart.go:463", after := #[{ on := 10, ground := Ground.data }], guard := none }) (v := ?_) rfl (by kernel_rfl) (by kernel_rfl) (by kernel_rfl) (fun _ _ _ h => h) (Or.inl ⟨by rfl, ?_⟩) (by assumption) ?_
                          rotate_left 1
                          · (intro w hSw; (try dsimp only at hSw); go_simp <;> (with_reducible rfl))
                          (first | ((fail_if_success (unfold Act.put)); (try simp only [List.setIfInBounds_toArray, List.set_cons_zero, List.set_cons_succ])) | (try simp only [Act.put, List.setIfInBounds_toArray, List.set_cons_zero, List.set_cons_succ]))
                          refine wpAnyH_take (i := 12) (oi := { dst := some 179, op := Op.move (Operand.tmp 178), type := 4, pos := "apart.go:463", after := #[{ on := 11, ground := Ground.data }, { on := 9, ground := Ground.chain }], guard := none }) (v := ?_) rfl (by kernel_rfl) (by kernel_rfl) (by kernel_rfl) (fun _ _ _ h => h) (Or.inl ⟨by rfl, ?_⟩) (by assumption) ?_
                          rotate_left 1
                          · (intro w hSw; (try dsimp only at hSw); go_simp <;> (with_reducible rfl))
                          (first | ((fail_if_success (unfold Act.put)); (try simp only [List.setIfInBounds_toArray, List.set_cons_zero, List.set_cons_succ])) | (try simp only [Act.put, List.setIfInBounds_toArray, List.set_cons_zero, List.set_cons_succ]))
                          refine wpAnyH_take (i := 13) (oi := { dst := some 180, op := Op.move (Operand.tmp 5), type := 40, pos := "apart.go:463", after := #[{ on := 12, ground := Ground.guard }], guard := some (12, false) }) (v := ?_) rfl (by kernel_rfl) (by kernel_rfl) (by kernel_rfl) (fun _ _ _ h => h) (Or.inl ⟨by rfl, ?_⟩) (by assumption) ?_
                          rotate_left 1
                          · (intro w hSw; (try dsimp only at hSw); go_simp <;> (with_reducible rfl))
                          (first | ((fail_if_success (unfold Act.put)); (try simp only [List.setIfInBounds_toArray, List.set_cons_zero, List.set_cons_succ])) | (try simp only [Act.put, List.setIfInBounds_toArray, List.set_cons_zero, List.set_cons_succ]))
                          refine wpAnyH_take (i := 14) (oi := { dst := some 181, op := Op.move (Operand.tmp 14), type := 3, pos := "apart.go:463", after := #[{ on := 12, ground := Ground.guard }], guard := some (12, false) }) (v := ?_) rfl (by kernel_rfl) (by kernel_rfl) (by kernel_rfl) (fun _ _ _ h => h) (Or.inl ⟨by rfl, ?_⟩) (by assumption) ?_
                          rotate_left 1
                          · (intro w hSw; (try dsimp only at hSw); go_simp <;> (with_reducible rfl))
                          (first | ((fail_if_success (unfold Act.put)); (try simp only [List.setIfInBounds_toArray, List.set_cons_zero, List.set_cons_succ])) | (try simp only [Act.put, List.setIfInBounds_toArray, List.set_cons_zero, List.set_cons_succ]))
                          refine wpAnyH_take (i := 15) (oi := { dst := some 182, op := Op.indexAddr 40 (Operand.tmp 180) (Operand.tmp 181), type := 0, pos := "apart.go:463", after := #[{ on := 13, ground := Ground.data }, { on := 14, ground := Ground.data }, { on := 12, ground := Ground.guard }], guard := some (12, false) }) (v := ?_) rfl (by kernel_rfl) (by kernel_rfl) (by kernel_rfl) (fun _ _ _ h => h) (Or.inl ⟨by rfl, ?_⟩) (by assumption) ?_
                          rotate_left 1
                          · (intro w hSw; (try dsimp only at hSw); go_simp <;> (with_reducible rfl))
                          (first | ((fail_if_success (unfold Act.put)); (try simp only [List.setIfInBounds_toArray, List.set_cons_zero, List.set_cons_succ])) | (try simp only [Act.put, List.setIfInBounds_toArray, List.set_cons_zero, List.set_cons_succ]))
                          refine wpAnyH_take (i := 16) (oi := { dst := some 183, op := Op.load 22 (Operand.tmp 182), type := 22, pos := "apart.go:463", after := #[{ on := 15, ground := Ground.data }, { on := 12, ground := Ground.guard }], guard := some (12, false) }) (v := ?_) rfl (by kernel_rfl) (by kernel_rfl) (by kernel_rfl) (fun _ _ _ h => h) (Or.inl ⟨by rfl, ?_⟩) (by assumption) ?_
                          rotate_left 1
                          · (intro w hSw; (try dsimp only at hSw); go_simp <;> (with_reducible rfl))
                          (first | ((fail_if_success (unfold Act.put)); (try simp only [List.setIfInBounds_toArray, List.set_cons_zero, List.set_cons_succ])) | (try simp only [Act.put, List.setIfInBounds_toArray, List.set_cons_zero, List.set_cons_succ]))
                          refine wpAnyH_take (i := 17) (oi := { dst := some 184, op := Op.move (Operand.tmp 15), type := 3, pos := "apart.go:463", after := #[{ on := 12, ground := Ground.guard }], guard := some (12, false) }) (v := ?_) rfl (by kernel_rfl) (by kernel_rfl) (by kernel_rfl) (fun _ _ _ h => h) (Or.inl ⟨by rfl, ?_⟩) (by assumption) ?_
                          rotate_left 1
                          · (intro w hSw; (try dsimp only at hSw); go_simp <;> (with_reducible rfl))
                          (first | ((fail_if_success (unfold Act.put)); (try simp only [List.setIfInBounds_toArray, List.set_cons_zero, List.set_cons_succ])) | (try simp only [Act.put, List.setIfInBounds_toArray, List.set_cons_zero, List.set_cons_succ]))
                          refine wpAnyH_take (i := 18) (oi := { dst := some 185, op := Op.indexAddr 22 (Operand.tmp 183) (Operand.tmp 184), type := 0, pos := "apart.go:463", after := #[{ on := 16, ground := Ground.data }, { on := 17, ground := Ground.data }, { on := 12, ground := Ground.guard }], guard := some (12, false) }) (v := ?_) rfl (by kernel_rfl) (by kernel_rfl) (by kernel_rfl) (fun _ _ _ h => h) (Or.inl ⟨by rfl, ?_⟩) (by assumption) ?_
                          rotate_left 1
                          · (intro w hSw; (try dsimp only at hSw); go_simp <;> (with_reducible rfl))
                          (first | ((fail_if_success (unfold Act.put)); (try simp only [List.setIfInBounds_toArray, List.set_cons_zero, List.set_cons_succ])) | (try simp only [Act.put, List.setIfInBounds_toArray, List.set_cons_zero, List.set_cons_succ]))
                          refine wpAnyH_take (i := 19) (oi := { dst := some 186, op := Op.load 31 (Operand.tmp 185), type := 31, pos := "apart.go:463", after := #[{ on := 18, ground := Ground.data }, { on := 12, ground := Ground.guard }], guard := some (12, false) }) (v := ?_) rfl (by kernel_rfl) (by kernel_rfl) (by kernel_rfl) (fun _ _ _ h => h) (Or.inl ⟨by rfl, ?_⟩) (by assumption) ?_
                          rotate_left 1
                          · (intro w hSw; (try dsimp only at hSw); go_simp <;> (with_reducible rfl))
                          (first | ((fail_if_success (unfold Act.put)); (try simp only [List.setIfInBounds_toArray, List.set_cons_zero, List.set_cons_succ])) | (try simp only [Act.put, List.setIfInBounds_toArray, List.set_cons_zero, List.set_cons_succ]))
                          refine wpAnyH_take (i := 20) (oi := { dst := some 187, op := Op.move (Operand.tmp 14), type := 3, pos := "apart.go:463", after := #[{ on := 12, ground := Ground.guard }], guard := some (12, false) }) (v := ?_) rfl (by kernel_rfl) (by kernel_rfl) (by kernel_rfl) (fun _ _ _ h => h) (Or.inl ⟨by rfl, ?_⟩) (by assumption) ?_
                          rotate_left 1
                          · (intro w hSw; (try dsimp only at hSw); go_simp <;> (with_reducible rfl))
                          (first | ((fail_if_success (unfold Act.put)); (try simp only [List.setIfInBounds_toArray, List.set_cons_zero, List.set_cons_succ])) | (try simp only [Act.put, List.setIfInBounds_toArray, List.set_cons_zero, List.set_cons_succ]))
                          refine wpAnyH_take (i := 21) (oi := { dst := some 188, op := Op.move (Operand.tmp 15), type := 3, pos := "apart.go:463", after := #[{ on := 12, ground := Ground.guard }], guard := some (12, false) }) (v := ?_) rfl (by kernel_rfl) (by kernel_rfl) (by kernel_rfl) (fun _ _ _ h => h) (Or.inl ⟨by rfl, ?_⟩) (by assumption) ?_
                          rotate_left 1
                          · (intro w hSw; (try dsimp only at hSw); go_simp <;> (with_reducible rfl))
                          (first | ((fail_if_success (unfold Act.put)); (try simp only [List.setIfInBounds_toArray, List.set_cons_zero, List.set_cons_succ])) | (try simp only [Act.put, List.setIfInBounds_toArray, List.set_cons_zero, List.set_cons_succ]))
                          refine wpAnyH_ready (rs := [22]) (by kernel_rfl) (by simp) ?_
                          refine AllReadyH.cons (o := { dst := some 189, op := Op.call { callee := Callee.value (Operand.func 37), args := #[Operand.tmp 187, Operand.tmp 188], argTypes := #[3, 3] }, type := 31, pos := "apart.go:463", after := #[{ on := 20, ground := Ground.data }, { on := 21, ground := Ground.data }, { on := 12, ground := Ground.chain }, { on := 12, ground := Ground.guard }], guard := some (12, false) }) rfl (fun K hK => ?_) AllReadyH.nil
                          go_simp
                          go_at_call 37; refine (HMT.out _).mono ?_; rintro e w9 ⟨rfl, hb2⟩; have HB9 := Lib.hid (HB8.out.trans (hb2.mono hsz2))
                          (try go_wp2_with fail)
                          refine hK.out _ _ (⟨(hb2.cell (p := ⟨Q, k, none⟩) (Nat.lt_of_lt_of_le hQl hsz2)).trans hR1.1, (hb2.cell (p := ⟨b, t * 2, none⟩) (Nat.lt_of_lt_of_le hbl hsz2)).trans hR1.2.1, (hb2.cell (p := ⟨b, t * 2 + 1, none⟩) (Nat.lt_of_lt_of_le hbl hsz2)).trans hR1.2.2.1, (hb2.cell (p := ⟨G, k, none⟩) (Nat.lt_of_lt_of_le hGl hsz2)).trans hR1.2.2.2.1, (hb2.cell (p := ⟨g, t * 2, none⟩) (Nat.lt_of_lt_of_le hgl hsz2)).trans hR1.2.2.2.2.1, (hb2.cell (p := ⟨g, t * 2 + 1, none⟩) (Nat.lt_of_lt_of_le hgl hsz2)).trans hR1.2.2.2.2.2⟩) (fun hR2 => ?_)
                          clear hK K hR1
                          (first | ((fail_if_success (unfold Act.put)); (try simp only [List.setIfInBounds_toArray, List.set_cons_zero, List.set_cons_succ])) | (try simp only [Act.put, List.setIfInBounds_toArray, List.set_cons_zero, List.set_cons_succ]))
                          clear hb2
                          refine wpAnyH_take (i := 23) (oi := { dst := some 190, op := Op.binOp BinOp.eql 31 (Operand.tmp 186) (Operand.tmp 189) 31, type := 4, pos := "apart.go:463", after := #[{ on := 19, ground := Ground.data }, { on := 22, ground := Ground.data }, { on := 12, ground := Ground.guard }], guard := some (12, false) }) (v := ?_) rfl (by kernel_rfl) (by kernel_rfl) (by kernel_rfl) (fun _ _ _ h => h) (Or.inl ⟨by rfl, ?_⟩) (by assumption) ?_
                          rotate_left 1
                          · (intro w hSw; (try dsimp only at hSw); go_simp <;> (with_reducible rfl))
                          (first | ((fail_if_success (unfold Act.put)); (try simp only [List.setIfInBounds_toArray, List.set_cons_zero, List.set_cons_succ])) | (try simp only [Act.put, List.setIfInBounds_toArray, List.set_cons_zero, List.set_cons_succ]))
                          refine wpAnyH_take (i := 24) (oi := { dst := some 191, op := Op.unOp UnOp.not 4 (Operand.tmp 190), type := 4, pos := "apart.go:463", after := #[{ on := 23, ground := Ground.data }, { on := 12, ground := Ground.guard }], guard := some (12, false) }) (v := ?_) rfl (by kernel_rfl) (by kernel_rfl) (by kernel_rfl) (fun _ _ _ h => h) (Or.inl ⟨by rfl, ?_⟩) (by assumption) ?_
                          rotate_left 1
                          · (intro w hSw; (try dsimp only at hSw); go_simp <;> (with_reducible rfl))
                          (first | ((fail_if_success (unfold Act.put)); (try simp only [List.setIfInBounds_toArray, List.set_cons_zero, List.set_cons_succ])) | (try simp only [Act.put, List.setIfInBounds_toArray, List.set_cons_zero, List.set_cons_succ]))
                          refine wpAnyH_take (i := 25) (oi := { dst := some 192, op := Op.pick (Operand.tmp 179) (Operand.const (Value.bool true)) (Operand.tmp 191), type := 4, pos := "apart.go:463", after := #[{ on := 12, ground := Ground.data }, { on := 24, ground := Ground.data }], guard := none }) (v := ?_) rfl (by kernel_rfl) (by kernel_rfl) (by kernel_rfl) (fun _ _ _ h => h) (Or.inl ⟨by rfl, ?_⟩) (by assumption) ?_
                          rotate_left 1
                          · (intro w hSw; (try dsimp only at hSw); go_simp <;> (with_reducible rfl))
                          (first | ((fail_if_success (unfold Act.put)); (try simp only [List.setIfInBounds_toArray, List.set_cons_zero, List.set_cons_succ])) | (try simp only [Act.put, List.setIfInBounds_toArray, List.set_cons_zero, List.set_cons_succ]))
                          refine wpAnyH_done (by kernel_rfl) ?_ _
                          refine NoPanic.normal ?_
                          clear hR2
                          go_wp2
                          go_roundw
                          case rel => (repeat apply Exists.intro); refine ⟨?_, rfl⟩; exact ⟨t + 1, by omega, by go_num, HB9⟩
                          case measure => simp [intOf]; omega
                        · obtain rfl : t = n k := by omega
                          go_wp2
                          go_roundw
                          case rel => exact ⟨k + 1, by omega, by go_num, HB⟩
                          case measure => simp [intOf]; omega
                    · obtain rfl : k = 3 := by omega
                      go_wp2
                      go_ret
                      exact ⟨rfl, HF.out.bel.trans (HB.out.mono (Nat.le_trans hN HF.out.sz)), Nat.le_trans HF.out.sz HB.out.size, fun b hb h => (HB.out.block b (Nat.lt_of_lt_of_le hb HF.out.sz)).trans (HF.out.fr b hb h)⟩

def pick3 {α : Type} (x y z : α) (k : Nat) : α := match k with | 0 => x | 1 => y | _ => z

theorem flatsThree : FlatsThree := by
  intro N W v v1 v2 v3 l1 l2 l3 hN ht ho h1 h2 h3
  obtain ⟨a1, c1, rfl⟩ := own_slice ht.o1
  obtain ⟨a2, c2, rfl⟩ := own_slice ht.o2
  obtain ⟨a3, c3, rfl⟩ := own_slice ht.o3
  obtain ⟨G, cap, rfl, hG⟩ : ∃ G cap, v = .slice (some ⟨G, 0, none⟩) 3 cap ∧ G < W.heap.size := by
    rcases ho.2 with ⟨_, h0⟩ | ⟨g, cap, cur, e, _, hg, _⟩
    · omega
    · exact ⟨g, cap, e, (Array.getElem?_eq_some_iff.1 hg).1⟩
  have three : ∀ k : Nat, k < 3 → k = 0 ∨ k = 1 ∨ k = 2 := fun k h => by omega
  have hrow : ∀ k, k < 3 → (pick3 l1 l2 l3 k).length = pick3 l1.length l2.length l3.length k ∧ W.ownsRow N 31 2 (.slice (pick3 a1 a2 a3 k) (pick3 l1.length l2.length l3.length k) (pick3 c1 c2 c3 k)) (pick3 l1.length l2.length l3.length k) (cellsS (pick3 l1 l2 l3 k)) := fun k hk => by
    rcases three k hk with rfl | rfl | rfl
    · exact ⟨rfl, ht.o1⟩
    · exact ⟨rfl, ht.o2⟩
    · exact ⟨rfl, ht.o3⟩
  have comm : ∀ x y : Value, (x.ownBlock = none ∨ x.ownBlock ≠ y.ownBlock) → (y.ownBlock = none ∨ y.ownBlock ≠ x.ownBlock) := fun x y h => by
    rcases h with h | h
    · by_cases e : y.ownBlock = none
      · exact .inl e
      · exact .inr (by rw [h]; exact e)
    · exact .inr (fun e => h e.symm)
  have hF : Fs N W W (pick3 a1 a2 a3) (pick3 l1.length l2.length l3.length) (pick3 c1 c2 c3) (pick3 l1 l2 l3) := by
    refine ⟨hrow, fun i j hi hj hne => ?_, Below.refl _ _, fun k hk b e => ((hrow k hk).2.lt b e).2, fun _ _ _ => rfl, Nat.le_refl _⟩
    rcases three i hi with rfl | rfl | rfl <;> rcases three j hj with rfl | rfl | rfl
    · exact absurd rfl hne
    · exact ht.d12
    · exact ht.d13
    · exact comm _ _ ht.d12
    · exact absurd rfl hne
    · exact ht.d23
    · exact comm _ _ ht.d13
    · exact comm _ _ ht.d23
    · exact absurd rfl hne
  refine (flats_gen N W G cap _ _ _ _ hF hG (fun k hk e => own_ne (hrow k hk).2 ho (by decide) e rfl) (fun k hk => ?_) (fun k hk => ?_) hN).mono ?_
  · rcases three k hk with rfl | rfl | rfl
    · exact ho.cellAt 0 (by omega)
    · exact ho.cellAt 1 (by omega)
    · exact ho.cellAt 2 (by omega)
  · rcases three k hk with rfl | rfl | rfl
    · exact h1
    · exact h2
    · exact h3
  · rintro e w' ⟨rfl, hb, hs, hf⟩
    refine ⟨rfl, hb, hs, fun b hb' e1 e2 e3 => hf b hb' (fun k hk => ?_)⟩
    rcases three k hk with rfl | rfl | rfl
    · exact e1
    · exact e2
    · exact e3

end Go.Proofs.YtanlaejdibikiaaGreat
