/-
'SpanSmall': the walk.
-/
import Derived.Test.YtanlaejdibikiaaGreatSmall
namespace Go.Proofs.YtanlaejdibikiaaGreat
open Go.RowKit Go.Shelf Sp

/-- An operation whose guard is met goes as one that has none. -/
theorem unguard {P : Program} {ops : Array Oper} {Q : Exit → Act → World → Prop} {rest : List Oper} {o : Oper} {a : Act} {w : World} (hw : Region.wanted o (yielded ops a.tmps) = true) (h : wpList P ops Q ({ o with guard := none } :: rest) a w) : wpList P ops Q (o :: rest) a w := by
  unfold wpList at h ⊢
  rw [if_pos hw]
  rw [if_pos (by rfl)] at h
  exact h

def numZ (j : Nat) : Int := [-9223372036854775808, -1, 0, 1, 65535, 65536, 65537, 9223372036854775807][j]?.getD 0
theorem numZ_bd (j : Nat) (_h : j < 8) : -9223372036854775808 ≤ numZ j ∧ numZ j ≤ 9223372036854775807 := by
  have : j = 0 ∨ j = 1 ∨ j = 2 ∨ j = 3 ∨ j = 4 ∨ j = 5 ∨ j = 6 ∨ j = 7 := by omega
  rcases this with rfl | rfl | rfl | rfl | rfl | rfl | rfl | rfl <;> decide +kernel

set_option maxRecDepth 100000 in
set_option maxHeartbeats 16000000 in
theorem SpanSmall_walk (w : World) : Calls Tryz.prog 4 #[] w (Says (.bool true) w) := by
  have HD := Lib.hid (fun x y hx hy W => days_any x y hx hy W)
  have HM := Lib.hid (fun v l hl W h => makes_any v l hl W h)
  have HBO := Lib.hid (fun va vb a b ha hb W h h' => both_any (aparts flatsThree) va vb a b ha hb W h h')
  have HA := Lib.hid (fun v l d n hd hn hl W h => asks_any v l d n hd hn hl W h)
  have HB0 := Lib.hid (Below.refl w.heap.size w)
  go_enter Tryz.func4, Tryz.ntmps4
  go_wp2_with fail
  go_loopw [3] (fun i wr => ∃ k : Nat, k ≤ 128 ∧ i = .int .i64 k ∧ Hid (Below w.heap.size w wr)) (fun i _ => 128 - (intOf i).toNat)
  case atStart => exact ⟨0, by omega, rfl, HB0⟩
  case round =>
    clear HB0
    obtain ⟨k, hk, rfl, HB⟩ := hrel
    by_cases hk8 : k < 128
    · have i1 : (k : Int) < 128 := by omega
      have hd1 : 0 ≤ (k : Int) % 64 ∧ (k : Int) % 64 < 64 := by omega
      have hd2 : 0 ≤ (k : Int) / 64 * 65530 ∧ (k : Int) / 64 * 65530 ≤ 65530 := by omega
      have hd3 : 0 ≤ (k : Int) * 37 % 64 ∧ (k : Int) * 37 % 64 < 64 := by omega
      have D1 := Lib.hid hd1
      have D2 := Lib.hid hd2
      have D3 := Lib.hid hd3
      clear hd1 hd2 hd3
      go_wp2_with fail
      refine (HD.out _ _ D1.out D2.out _).mono ?_
      rintro e w1 ⟨⟨va, la, rfl, hla, oa⟩, hb⟩
      obtain ⟨aa, ca, rfl⟩ := own_slice oa
      have HB1 := Lib.hid (HB.out.trans (hb.mono HB.out.size))
      have SA := Lib.hid (Spn.of_owns oa (by omega))
      clear hb oa
      go_wp2_with fail
      refine (HD.out _ _ D3.out D2.out _).mono ?_
      rintro e w2 ⟨⟨vb, lb, rfl, hlb, ob⟩, hb⟩
      obtain ⟨ab, cb, rfl⟩ := own_slice ob
      replace SA := Lib.hid (SA.out.below hb (Nat.le_refl _))
      have HB2 := Lib.hid (HB1.out.trans (hb.mono HB1.out.size))
      have SB := Lib.hid (Spn.of_owns ob (by omega))
      clear hb ob
      go_wp2_with fail
      refine (HBO.out _ _ la lb (by omega) (by omega) _ SA.out SB.out).mono ?_
      rintro e w3 ⟨rfl, hb⟩
      replace SA := Lib.hid (SA.out.below hb (Nat.le_refl _))
      replace SB := Lib.hid (SB.out.below hb (Nat.le_refl _))
      have HB3 := Lib.hid (HB2.out.trans (hb.mono HB2.out.size))
      clear hb
      go_wp2_with fail
      refine (HBO.out _ _ lb la (by omega) (by omega) _ SB.out SA.out).mono ?_
      rintro e w4 ⟨rfl, hb⟩
      replace SA := Lib.hid (SA.out.below hb (Nat.le_refl _))
      replace SB := Lib.hid (SB.out.below hb (Nat.le_refl _))
      have HB4 := Lib.hid (HB3.out.trans (hb.mono HB3.out.size))
      clear hb
      have OE : (w4.alloc (.cells #[] 31)).ownsRow w4.heap.size 31 2 (.slice (some ⟨w4.heap.size, 0, none⟩) 0 0) 0 (cellsS []) := own_lit w4 w4.heap.size (Nat.le_refl _) [] (by simp)
      have HOE := Lib.hid OE
      have hal := (Below.refl w4.heap.size w4).alloc (Nat.le_refl _) (.cells #[] 31)
      have SB4 := Lib.hid (SB.out.below hal (Nat.le_refl _))
      have HAL := Lib.hid hal
      clear OE hal
      have hla2 : la.length ≤ 6 := hla
      have hlb2 : lb.length ≤ 6 := hlb
      go_wp2_with (first
        | (at_builtin; refine unguard (by rfl) ?_; refine append_spn rfl _ _ rfl w4.heap.size (.slice (some ⟨w4.heap.size, 0, none⟩) 0 0) [] 0 rfl rfl HOE.out _ lb rfl SB4.out (by simp; omega) (by simp) ?_; intro v1 w5 o5 g5; have O5 := Lib.hid o5; have hb5 := HAL.out.grown g5 (by simp) (fun q e => by obtain rfl : w4.heap.size = q := (by simpa [Value.ownBlock] using e); exact Nat.le_refl _); have SA5 := Lib.hid (SA.out.below hb5 (Nat.le_refl _)); have HB5 := Lib.hid hb5; clear o5 g5 hb5 HOE HAL SB4)
        | (at_builtin; refine unguard (by rfl) ?_; refine append_spn rfl _ _ rfl w4.heap.size _ ([] ++ lb) _ rfl rfl O5.out _ la rfl SA5.out (by simp; omega) HB5.out.size ?_; intro v2 w6 o6 g6; have O6 := Lib.hid o6; have hb6 := HB5.out.grown g6 HB5.out.size (fun q e => (O5.out.lt q e).1); have SA6 := Lib.hid (SA.out.below hb6 (Nat.le_refl _)); have SB6 := Lib.hid (SB.out.below hb6 (Nat.le_refl _)); have HB6 := Lib.hid (HB4.out.trans (hb6.mono HB4.out.size)); clear o6 g6 hb6 O5 SA5 HB5))
      refine (HM.out _ _ (by simp; omega) _ (Spn.of_owns O6.out (by simp; omega))).mono ?_
      rintro e w7 ⟨rfl, hb⟩
      replace SA := Lib.hid (SA6.out.below hb (Nat.le_refl _))
      replace SB := Lib.hid (SB6.out.below hb (Nat.le_refl _))
      have HB7 := Lib.hid (HB6.out.trans (hb.mono HB6.out.size))
      clear hb SA6 SB6 O6
      go_wp2_with fail
      · refine (HA.out _ la ((k : Int) % 6) ((k : Int) % 5) (by omega) (by omega) (by omega) _ SA.out).mono ?_
        rintro e w8 ⟨rfl, hb⟩
        replace SA := Lib.hid (SA.out.below hb (Nat.le_refl _))
        replace SB := Lib.hid (SB.out.below hb (Nat.le_refl _))
        have HB8 := Lib.hid (HB7.out.trans (hb.mono HB7.out.size))
        clear hb
        go_wp2_with fail
        refine (HA.out _ la 65535 2 (by omega) (by omega) (by omega) _ SA.out).mono ?_
        rintro e w9 ⟨rfl, hb⟩
        replace SA := Lib.hid (SA.out.below hb (Nat.le_refl _))
        replace SB := Lib.hid (SB.out.below hb (Nat.le_refl _))
        have HB9 := Lib.hid (HB8.out.trans (hb.mono HB8.out.size))
        clear hb
        go_wp2_with fail
        refine (HA.out _ lb 9223372036854775807 9223372036854775807 (by omega) (by omega) (by omega) _ SB.out).mono ?_
        rintro e w10 ⟨rfl, hb⟩
        replace SA := Lib.hid (SA.out.below hb (Nat.le_refl _))
        replace SB := Lib.hid (SB.out.below hb (Nat.le_refl _))
        have HB10 := Lib.hid (HB9.out.trans (hb.mono HB9.out.size))
        clear hb
        go_wp2_with fail
        refine (HA.out _ lb (-9223372036854775808) (-9223372036854775808) (by omega) (by omega) (by omega) _ SB.out).mono ?_
        rintro e w11 ⟨rfl, hb⟩
        replace SA := Lib.hid (SA.out.below hb (Nat.le_refl _))
        replace SB := Lib.hid (SB.out.below hb (Nat.le_refl _))
        have HB11 := Lib.hid (HB10.out.trans (hb.mono HB10.out.size))
        clear hb
        go_wp2_with fail
        exact ⟨⟨k + 1, by omega, by go_num, HB11⟩, by simp [intOf]; omega⟩
      · exact ⟨⟨k + 1, by omega, by go_num, HB7⟩, by simp [intOf]; omega⟩
    · obtain rfl : k = 128 := by omega
      go_wp2_with fail
      have hal := (Below.refl wr.heap.size wr).alloc (Nat.le_refl _) (.cells #[.int .i64 (-9223372036854775808), .int .i64 (-1), .int .i64 0, .int .i64 1, .int .i64 65535, .int .i64 65536, .int .i64 65537, .int .i64 9223372036854775807] 3)
      have hcell : ∀ j, j < 8 → (wr.alloc (.cells #[.int .i64 (-9223372036854775808), .int .i64 (-1), .int .i64 0, .int .i64 1, .int .i64 65535, .int .i64 65536, .int .i64 65537, .int .i64 9223372036854775807] 3)).cell? ⟨wr.heap.size, j, none⟩ = some (.int .i64 (numZ j)) := fun j hj => by
        have h8 : j = 0 ∨ j = 1 ∨ j = 2 ∨ j = 3 ∨ j = 4 ∨ j = 5 ∨ j = 6 ∨ j = 7 := by omega
        rcases h8 with rfl | rfl | rfl | rfl | rfl | rfl | rfl | rfl <;> simp [numZ]
      have HBA := Lib.hid (HB.out.trans (hal.mono HB.out.size))
      obtain ⟨N, hN⟩ : ∃ N, wr.heap.size = N := ⟨_, rfl⟩
      obtain ⟨w12, hw12⟩ : ∃ W, wr.alloc (.cells #[.int .i64 (-9223372036854775808), .int .i64 (-1), .int .i64 0, .int .i64 1, .int .i64 65535, .int .i64 65536, .int .i64 65537, .int .i64 9223372036854775807] 3) = W := ⟨_, rfl⟩
      have hNl : N < w12.heap.size := by rw [← hw12, ← hN]; simp
      rw [hw12, hN] at hcell
      rw [hw12] at HBA
      rw [hw12, hN]
      have HC := Lib.hid hcell
      clear hcell hal hw12 hN HB
      go_loopw [7] (fun i wx => ∃ k : Nat, k ≤ 8 ∧ i = .int .i64 k ∧ Hid (Below w12.heap.size w12 wx)) (fun i _ => 8 - (intOf i).toNat)
      case atStart => exact ⟨0, by omega, rfl, Lib.hid (Below.refl _ _)⟩
      case round =>
        obtain ⟨i, hi, rfl, HB⟩ := hrel
        by_cases hi8 : i < 8
        · have i2 : (i : Int) < 8 := by omega
          go_wp2_with fail
          go_loopw [8] (fun i wx => ∃ k : Nat, k ≤ 8 ∧ i = .int .i64 k ∧ Hid (Below w12.heap.size w12 wx)) (fun i _ => 8 - (intOf i).toNat)
          case atStart => exact ⟨0, by omega, rfl, HB⟩
          case round =>
            clear HB
            obtain ⟨k, hk, rfl, HB⟩ := hrel
            by_cases hk8 : k < 8
            · have i3 : (k : Int) < 8 := by omega
              have c1 := (HB.out.cell (p := ⟨N, i, none⟩) hNl).trans (HC.out i hi8)
              have c2 := (HB.out.cell (p := ⟨N, k, none⟩) hNl).trans (HC.out k hk8)
              have bx := numZ_bd i hi8
              have bz := numZ_bd k hk8
              have HBX := Lib.hid bx
              have HBZ := Lib.hid bz
              obtain ⟨x, hx⟩ : ∃ x, numZ i = x := ⟨_, rfl⟩
              obtain ⟨z, hz⟩ : ∃ z, numZ k = z := ⟨_, rfl⟩
              rw [hx] at c1 HBX
              rw [hz] at c2 HBZ
              have HX := Lib.hid hx
              have HZ := Lib.hid hz
              clear bx bz hx hz
              go_wp2_with fail
              have hNr : N < wr.heap.size := Nat.lt_of_lt_of_le hNl HB.out.size
              refine wp_region_noPanic ?_
              refine wp_region_held_drew (S := (fun w' => w'.cell? ⟨N, i, none⟩ = some (.int .i64 x) ∧ w'.cell? ⟨N, k, none⟩ = some (.int .i64 z))) (by kernel_rfl) ⟨c1, c2⟩ (fun hR0 => ?_)
              change wpAnyH _ _ _ _ _ 12 #[false, false, false, false, false, false, false, false, false, false, false, false] _ _
              clear c1 c2
              refine wpAnyH_take (i := 0) (oi := { dst := some 92, op := Op.move (Operand.tmp 6), type := 28, pos := "law.go:105", after := #[], guard := none }) (v := ?_) rfl (by kernel_rfl) (by kernel_rfl) (by kernel_rfl) (fun _ _ _ h => h) (Or.inl ⟨by rfl, ?_⟩) (by assumption) ?_
              rotate_left 1
              · (intro w hSw; (try dsimp only at hSw); go_simp <;> (with_reducible rfl))
              (first | ((fail_if_success (unfold Act.put)); (try simp only [List.setIfInBounds_toArray, List.set_cons_zero, List.set_cons_succ])) | (try simp only [Act.put, List.setIfInBounds_toArray, List.set_cons_zero, List.set_cons_succ]))
              refine wpAnyH_take (i := 1) (oi := { dst := some 93, op := Op.move (Operand.tmp 7), type := 3, pos := "law.go:105", after := #[], guard := none }) (v := ?_) rfl (by kernel_rfl) (by kernel_rfl) (by kernel_rfl) (fun _ _ _ h => h) (Or.inl ⟨by rfl, ?_⟩) (by assumption) ?_
              rotate_left 1
              · (intro w hSw; (try dsimp only at hSw); go_simp <;> (with_reducible rfl))
              (first | ((fail_if_success (unfold Act.put)); (try simp only [List.setIfInBounds_toArray, List.set_cons_zero, List.set_cons_succ])) | (try simp only [Act.put, List.setIfInBounds_toArray, List.set_cons_zero, List.set_cons_succ]))
              refine wpAnyH_take (i := 2) (oi := { dst := some 94, op := Op.indexAddr 28 (Operand.tmp 92) (Operand.tmp 93), type := 0, pos := "law.go:105", after := #[{ on := 0, ground := Ground.data }, { on := 1, ground := Ground.data }], guard := none }) (v := ?_) rfl (by kernel_rfl) (by kernel_rfl) (by kernel_rfl) (fun _ _ _ h => h) (Or.inl ⟨by rfl, ?_⟩) (by assumption) ?_
              rotate_left 1
              · (intro w hSw; (try dsimp only at hSw); go_simp <;> (with_reducible rfl))
              (first | ((fail_if_success (unfold Act.put)); (try simp only [List.setIfInBounds_toArray, List.set_cons_zero, List.set_cons_succ])) | (try simp only [Act.put, List.setIfInBounds_toArray, List.set_cons_zero, List.set_cons_succ]))
              refine wpAnyH_take (i := 3) (oi := { dst := some 95, op := Op.load 3 (Operand.tmp 94), type := 3, pos := "law.go:105", after := #[{ on := 2, ground := Ground.data }], guard := none }) (v := ?_) rfl (by kernel_rfl) (by kernel_rfl) (by kernel_rfl) (fun _ _ _ h => h) (Or.inl ⟨by rfl, ?_⟩) (by assumption) ?_
              rotate_left 1
              · (intro w hSw; (try dsimp only at hSw); go_simp <;> (with_reducible rfl))
              (first | ((fail_if_success (unfold Act.put)); (try simp only [List.setIfInBounds_toArray, List.set_cons_zero, List.set_cons_succ])) | (try simp only [Act.put, List.setIfInBounds_toArray, List.set_cons_zero, List.set_cons_succ]))
              refine wpAnyH_take (i := 4) (oi := { dst := some 96, op := Op.move (Operand.tmp 6), type := 28, pos := "law.go:105", after := #[], guard := none }) (v := ?_) rfl (by kernel_rfl) (by kernel_rfl) (by kernel_rfl) (fun _ _ _ h => h) (Or.inl ⟨by rfl, ?_⟩) (by assumption) ?_
              rotate_left 1
              · (intro w hSw; (try dsimp only at hSw); go_simp <;> (with_reducible rfl))
              (first | ((fail_if_success (unfold Act.put)); (try simp only [List.setIfInBounds_toArray, List.set_cons_zero, List.set_cons_succ])) | (try simp only [Act.put, List.setIfInBounds_toArray, List.set_cons_zero, List.set_cons_succ]))
              refine wpAnyH_take (i := 5) (oi := { dst := some 97, op := Op.move (Operand.tmp 8), type := 3, pos := "law.go:105", after := #[], guard := none }) (v := ?_) rfl (by kernel_rfl) (by kernel_rfl) (by kernel_rfl) (fun _ _ _ h => h) (Or.inl ⟨by rfl, ?_⟩) (by assumption) ?_
              rotate_left 1
              · (intro w hSw; (try dsimp only at hSw); go_simp <;> (with_reducible rfl))
              (first | ((fail_if_success (unfold Act.put)); (try simp only [List.setIfInBounds_toArray, List.set_cons_zero, List.set_cons_succ])) | (try simp only [Act.put, List.setIfInBounds_toArray, List.set_cons_zero, List.set_cons_succ]))
              refine wpAnyH_take (i := 6) (oi := { dst := some 98, op := Op.indexAddr 28 (Operand.tmp 96) (Operand.tmp 97), type := 0, pos := "law.go:105", after := #[{ on := 4, ground := Ground.data }, { on := 5, ground := Ground.data }], guard := none }) (v := ?_) rfl (by kernel_rfl) (by kernel_rfl) (by kernel_rfl) (fun _ _ _ h => h) (Or.inl ⟨by rfl, ?_⟩) (by assumption) ?_
              rotate_left 1
              · (intro w hSw; (try dsimp only at hSw); go_simp <;> (with_reducible rfl))
              (first | ((fail_if_success (unfold Act.put)); (try simp only [List.setIfInBounds_toArray, List.set_cons_zero, List.set_cons_succ])) | (try simp only [Act.put, List.setIfInBounds_toArray, List.set_cons_zero, List.set_cons_succ]))
              refine wpAnyH_take (i := 7) (oi := { dst := some 99, op := Op.load 3 (Operand.tmp 98), type := 3, pos := "law.go:105", after := #[{ on := 6, ground := Ground.data }], guard := none }) (v := ?_) rfl (by kernel_rfl) (by kernel_rfl) (by kernel_rfl) (fun _ _ _ h => h) (Or.inl ⟨by rfl, ?_⟩) (by assumption) ?_
              rotate_left 1
              · (intro w hSw; (try dsimp only at hSw); go_simp <;> (with_reducible rfl))
              (first | ((fail_if_success (unfold Act.put)); (try simp only [List.setIfInBounds_toArray, List.set_cons_zero, List.set_cons_succ])) | (try simp only [Act.put, List.setIfInBounds_toArray, List.set_cons_zero, List.set_cons_succ]))
              refine wpAnyH_ready (rs := [8]) (by kernel_rfl) (by simp) ?_
              refine AllReadyH.cons (o := { dst := some 100, op := Op.call { callee := Callee.value (Operand.func 12), args := #[Operand.tmp 95, Operand.tmp 99], argTypes := #[3, 3] }, type := 31, pos := "law.go:105", after := #[{ on := 3, ground := Ground.data }, { on := 7, ground := Ground.data }], guard := none }) rfl (fun K hK => ?_) AllReadyH.nil
              go_simp
              go_at_call 12; refine (to_any x z _).mono ?_; rintro e w13 ⟨rfl, hb⟩; replace hb := (Below.refl wr.heap.size wr).drew.trans hb; have HB1 := Lib.hid (HB.out.trans (hb.mono HB.out.size)); have hN13 : N < w13.heap.size := Nat.lt_of_lt_of_le hNr hb.size; have hba := (Below.refl w13.heap.size w13).alloc (Nat.le_refl _) (.cells #[.int .i64 x, .int .i64 z] 31)
              (try go_wp2_with fail)
              refine hK.out _ _ (⟨(hb.cell (p := ⟨N, i, none⟩) hNr).trans hR0.1, (hb.cell (p := ⟨N, k, none⟩) hNr).trans hR0.2⟩) (fun hR1 => ?_)
              clear hK K hR0
              (first | ((fail_if_success (unfold Act.put)); (try simp only [List.setIfInBounds_toArray, List.set_cons_zero, List.set_cons_succ])) | (try simp only [Act.put, List.setIfInBounds_toArray, List.set_cons_zero, List.set_cons_succ]))
              clear hb HB
              refine wpAnyH_ready (rs := [9]) (by kernel_rfl) (by simp) ?_
              refine AllReadyH.cons (o := { dst := some 101, op := Op.buildSlice 22 1 #[(0, Operand.tmp 100)], type := 22, pos := "law.go:105", after := #[{ on := 8, ground := Ground.data }], guard := none }) rfl (fun K hK => ?_) AllReadyH.nil
              go_simp
              refine hK.out _ _ (⟨(hba.cell (p := ⟨N, i, none⟩) hN13).trans hR1.1, (hba.cell (p := ⟨N, k, none⟩) hN13).trans hR1.2⟩) (fun hR2 => ?_)
              clear hK K hR1
              (first | ((fail_if_success (unfold Act.put)); (try simp only [List.setIfInBounds_toArray, List.set_cons_zero, List.set_cons_succ])) | (try simp only [Act.put, List.setIfInBounds_toArray, List.set_cons_zero, List.set_cons_succ]))
              have Ha := Lib.hid (Spn.of_owns (own_lit w13 w13.heap.size (Nat.le_refl _) [(x, z)] (by simp)) (by simp))
              change Hid (Spn (w13.alloc (.cells #[.int .i64 x, .int .i64 z] 31)) (.slice (some ⟨w13.heap.size, 0, none⟩) 1 1) [(x, z)]) at Ha
              have HB := Lib.hid (HB1.out.trans (hba.mono HB1.out.size))
              clear hba HB1
              refine wpAnyH_ready (rs := [10]) (by kernel_rfl) (by simp) ?_
              refine AllReadyH.cons (o := { dst := some 102, op := Op.call { callee := Callee.value (Operand.func 11), args := #[Operand.tmp 101], argTypes := #[22] }, type := 22, pos := "law.go:105", after := #[{ on := 9, ground := Ground.data }, { on := 8, ground := Ground.chain }], guard := none }) rfl (fun K hK => ?_) AllReadyH.nil
              go_simp
              go_at_call 11; refine (set_any _ _ _ _).mono ?_; rintro e w15 ⟨rfl, rfl⟩
              (try go_wp2_with fail)
              refine hK.out _ _ (hR2) (fun hR3 => ?_)
              clear hK K hR2
              (first | ((fail_if_success (unfold Act.put)); (try simp only [List.setIfInBounds_toArray, List.set_cons_zero, List.set_cons_succ])) | (try simp only [Act.put, List.setIfInBounds_toArray, List.set_cons_zero, List.set_cons_succ]))
              refine wpAnyH_take (i := 11) (oi := { dst := some 9, op := Op.assign (Operand.tmp 102), type := 22, pos := "law.go:105", after := #[{ on := 10, ground := Ground.data }, { on := 10, ground := Ground.chain }, { on := 0, ground := Ground.phase }, { on := 1, ground := Ground.phase }, { on := 2, ground := Ground.phase }, { on := 3, ground := Ground.phase }, { on := 4, ground := Ground.phase }, { on := 5, ground := Ground.phase }, { on := 6, ground := Ground.phase }, { on := 7, ground := Ground.phase }, { on := 8, ground := Ground.phase }, { on := 9, ground := Ground.phase }, { on := 10, ground := Ground.phase }], guard := none }) (v := ?_) rfl (by kernel_rfl) (by kernel_rfl) (by kernel_rfl) (fun _ _ _ h => h) (Or.inl ⟨by rfl, ?_⟩) (by assumption) ?_
              rotate_left 1
              · (intro w hSw; (try dsimp only at hSw); go_simp <;> (with_reducible rfl))
              (first | ((fail_if_success (unfold Act.put)); (try simp only [List.setIfInBounds_toArray, List.set_cons_zero, List.set_cons_succ])) | (try simp only [Act.put, List.setIfInBounds_toArray, List.set_cons_zero, List.set_cons_succ]))
              refine wpAnyH_done (by kernel_rfl) ?_ _
              refine NoPanic.normal ?_
              clear hR3
              go_wp2_with fail
              obtain ⟨w14, hw⟩ : ∃ W, w13.alloc (.cells #[.int .i64 x, .int .i64 z] 31) = W := ⟨_, rfl⟩
              rw [hw] at Ha HB ⊢
              clear hw
              have c1 := (HB.out.cell (p := ⟨N, i, none⟩) hNl).trans (HC.out i hi8)
              have c2 := (HB.out.cell (p := ⟨N, k, none⟩) hNl).trans (HC.out k hk8)
              rw [HX.out] at c1
              rw [HZ.out] at c2
              have hN14 : N < w14.heap.size := Nat.lt_of_lt_of_le hNl HB.out.size
              refine wp_region_noPanic ?_
              refine wp_region_held_drew (S := (fun w' => w'.cell? ⟨N, i, none⟩ = some (.int .i64 x) ∧ w'.cell? ⟨N, k, none⟩ = some (.int .i64 z))) (by kernel_rfl) ⟨c1, c2⟩ (fun hR0 => ?_)
              change wpAnyH _ _ _ _ _ 21 #[false, false, false, false, false, false, false, false, false, false, false, false, false, false, false, false, false, false, false, false, false] _ _
              clear c1 c2
              refine wpAnyH_take (i := 0) (oi := { dst := some 103, op := Op.move (Operand.tmp 9), type := 22, pos := "law.go:106", after := #[], guard := none }) (v := ?_) rfl (by kernel_rfl) (by kernel_rfl) (by kernel_rfl) (fun _ _ _ h => h) (Or.inl ⟨by rfl, ?_⟩) (by assumption) ?_
              rotate_left 1
              · (intro w hSw; (try dsimp only at hSw); go_simp <;> (with_reducible rfl))
              (first | ((fail_if_success (unfold Act.put)); (try simp only [List.setIfInBounds_toArray, List.set_cons_zero, List.set_cons_succ])) | (try simp only [Act.put, List.setIfInBounds_toArray, List.set_cons_zero, List.set_cons_succ]))
              refine wpAnyH_ready (rs := [1]) (by kernel_rfl) (by simp) ?_
              refine AllReadyH.cons (o := { dst := some 104, op := Op.call { callee := Callee.value (Operand.func 9), args := #[Operand.tmp 103], argTypes := #[22] }, type := 4, pos := "law.go:106", after := #[{ on := 0, ground := Ground.data }], guard := none }) rfl (fun K hK => ?_) AllReadyH.nil
              go_simp
              go_at_call 9; refine (HM.out _ [(x, z)] (by simp) _ (Ha.out.below (Below.refl w14.heap.size w14).drew (Nat.le_refl _))).mono ?_; rintro e w16 ⟨rfl, hb⟩; replace hb := (Below.refl w14.heap.size w14).drew.trans hb; have HB1 := Lib.hid (HB.out.trans (hb.mono HB.out.size)); have Ha1 := Lib.hid (Ha.out.below hb (Nat.le_refl _)); have hN16 : N < w16.heap.size := Nat.lt_of_lt_of_le hN14 hb.size
              (try go_wp2_with fail)
              refine hK.out _ _ (⟨(hb.cell (p := ⟨N, i, none⟩) hN14).trans hR0.1, (hb.cell (p := ⟨N, k, none⟩) hN14).trans hR0.2⟩) (fun hR1 => ?_)
              clear hK K hR0
              (first | ((fail_if_success (unfold Act.put)); (try simp only [List.setIfInBounds_toArray, List.set_cons_zero, List.set_cons_succ])) | (try simp only [Act.put, List.setIfInBounds_toArray, List.set_cons_zero, List.set_cons_succ]))
              clear hb HB Ha
              refine wpAnyH_take (i := 2) (oi := { dst := some 105, op := Op.unOp UnOp.not 4 (Operand.tmp 104), type := 4, pos := "law.go:106", after := #[{ on := 1, ground := Ground.data }], guard := none }) (v := ?_) rfl (by kernel_rfl) (by kernel_rfl) (by kernel_rfl) (fun _ _ _ h => h) (Or.inl ⟨by rfl, ?_⟩) (by assumption) ?_
              rotate_left 1
              · (intro w hSw; (try dsimp only at hSw); go_simp <;> (with_reducible rfl))
              (first | ((fail_if_success (unfold Act.put)); (try simp only [List.setIfInBounds_toArray, List.set_cons_zero, List.set_cons_succ])) | (try simp only [Act.put, List.setIfInBounds_toArray, List.set_cons_zero, List.set_cons_succ]))
              refine wpAnyH_take (i := 3) (oi := { dst := some 106, op := Op.move (Operand.tmp 105), type := 4, pos := "law.go:106", after := #[{ on := 2, ground := Ground.data }, { on := 1, ground := Ground.chain }], guard := none }) (v := ?_) rfl (by kernel_rfl) (by kernel_rfl) (by kernel_rfl) (fun _ _ _ h => h) (Or.inl ⟨by rfl, ?_⟩) (by assumption) ?_
              rotate_left 1
              · (intro w hSw; (try dsimp only at hSw); go_simp <;> (with_reducible rfl))
              (first | ((fail_if_success (unfold Act.put)); (try simp only [List.setIfInBounds_toArray, List.set_cons_zero, List.set_cons_succ])) | (try simp only [Act.put, List.setIfInBounds_toArray, List.set_cons_zero, List.set_cons_succ]))
              refine wpAnyH_take (i := 4) (oi := { dst := some 107, op := Op.move (Operand.tmp 9), type := 22, pos := "law.go:106", after := #[{ on := 3, ground := Ground.guard }], guard := some (3, false) }) (v := ?_) rfl (by kernel_rfl) (by kernel_rfl) (by kernel_rfl) (fun _ _ _ h => h) (Or.inl ⟨by rfl, ?_⟩) (by assumption) ?_
              rotate_left 1
              · (intro w hSw; (try dsimp only at hSw); go_simp <;> (with_reducible rfl))
              (first | ((fail_if_success (unfold Act.put)); (try simp only [List.setIfInBounds_toArray, List.set_cons_zero, List.set_cons_succ])) | (try simp only [Act.put, List.setIfInBounds_toArray, List.set_cons_zero, List.set_cons_succ]))
              refine wpAnyH_ready (rs := [5]) (by kernel_rfl) (by simp) ?_
              refine AllReadyH.cons (o := { dst := some 108, op := Op.call { callee := Callee.value (Operand.func 6), args := #[Operand.tmp 107, Operand.const (Value.slice none 0 0)], argTypes := #[22, 22] }, type := 4, pos := "law.go:106", after := #[{ on := 4, ground := Ground.data }, { on := 3, ground := Ground.chain }, { on := 3, ground := Ground.guard }], guard := some (3, false) }) rfl (fun K hK => ?_) AllReadyH.nil
              go_simp
              go_at_call 6; refine (HBO.out _ _ [(x, z)] [] (by simp) (by simp) _ Ha1.out (Spn.nil _)).mono ?_; rintro e w17 ⟨rfl, hb⟩; have HB2 := Lib.hid (HB1.out.trans (hb.mono HB1.out.size)); have Ha2 := Lib.hid (Ha1.out.below hb (Nat.le_refl _))
              (try go_wp2_with fail)
              refine hK.out _ _ (⟨(hb.cell (p := ⟨N, i, none⟩) hN16).trans hR1.1, (hb.cell (p := ⟨N, k, none⟩) hN16).trans hR1.2⟩) (fun hR2 => ?_)
              clear hK K hR1
              (first | ((fail_if_success (unfold Act.put)); (try simp only [List.setIfInBounds_toArray, List.set_cons_zero, List.set_cons_succ])) | (try simp only [Act.put, List.setIfInBounds_toArray, List.set_cons_zero, List.set_cons_succ]))
              clear hb HB1 Ha1
              refine wpAnyH_take (i := 6) (oi := { dst := some 109, op := Op.unOp UnOp.not 4 (Operand.tmp 108), type := 4, pos := "law.go:106", after := #[{ on := 5, ground := Ground.data }, { on := 3, ground := Ground.guard }], guard := some (3, false) }) (v := ?_) rfl (by kernel_rfl) (by kernel_rfl) (by kernel_rfl) (fun _ _ _ h => h) (Or.inl ⟨by rfl, ?_⟩) (by assumption) ?_
              rotate_left 1
              · (intro w hSw; (try dsimp only at hSw); go_simp <;> (with_reducible rfl))
              (first | ((fail_if_success (unfold Act.put)); (try simp only [List.setIfInBounds_toArray, List.set_cons_zero, List.set_cons_succ])) | (try simp only [Act.put, List.setIfInBounds_toArray, List.set_cons_zero, List.set_cons_succ]))
              refine wpAnyH_take (i := 7) (oi := { dst := some 110, op := Op.pick (Operand.tmp 106) (Operand.const (Value.bool true)) (Operand.tmp 109), type := 4, pos := "law.go:106", after := #[{ on := 3, ground := Ground.data }, { on := 6, ground := Ground.data }], guard := none }) (v := ?_) rfl (by kernel_rfl) (by kernel_rfl) (by kernel_rfl) (fun _ _ _ h => h) (Or.inl ⟨by rfl, ?_⟩) (by assumption) ?_
              rotate_left 1
              · (intro w hSw; (try dsimp only at hSw); go_simp <;> (with_reducible rfl))
              (first | ((fail_if_success (unfold Act.put)); (try simp only [List.setIfInBounds_toArray, List.set_cons_zero, List.set_cons_succ])) | (try simp only [Act.put, List.setIfInBounds_toArray, List.set_cons_zero, List.set_cons_succ]))
              refine wpAnyH_take (i := 8) (oi := { dst := some 111, op := Op.move (Operand.tmp 110), type := 4, pos := "law.go:106", after := #[{ on := 7, ground := Ground.data }, { on := 5, ground := Ground.chain }], guard := none }) (v := ?_) rfl (by kernel_rfl) (by kernel_rfl) (by kernel_rfl) (fun _ _ _ h => h) (Or.inl ⟨by rfl, ?_⟩) (by assumption) ?_
              rotate_left 1
              · (intro w hSw; (try dsimp only at hSw); go_simp <;> (with_reducible rfl))
              (first | ((fail_if_success (unfold Act.put)); (try simp only [List.setIfInBounds_toArray, List.set_cons_zero, List.set_cons_succ])) | (try simp only [Act.put, List.setIfInBounds_toArray, List.set_cons_zero, List.set_cons_succ]))
              refine wpAnyH_take (i := 9) (oi := { dst := some 112, op := Op.move (Operand.tmp 9), type := 22, pos := "law.go:106", after := #[{ on := 8, ground := Ground.guard }], guard := some (8, false) }) (v := ?_) rfl (by kernel_rfl) (by kernel_rfl) (by kernel_rfl) (fun _ _ _ h => h) (Or.inl ⟨by rfl, ?_⟩) (by assumption) ?_
              rotate_left 1
              · (intro w hSw; (try dsimp only at hSw); go_simp <;> (with_reducible rfl))
              (first | ((fail_if_success (unfold Act.put)); (try simp only [List.setIfInBounds_toArray, List.set_cons_zero, List.set_cons_succ])) | (try simp only [Act.put, List.setIfInBounds_toArray, List.set_cons_zero, List.set_cons_succ]))
              refine wpAnyH_take (i := 10) (oi := { dst := some 113, op := Op.move (Operand.tmp 6), type := 28, pos := "law.go:106", after := #[{ on := 8, ground := Ground.guard }], guard := some (8, false) }) (v := ?_) rfl (by kernel_rfl) (by kernel_rfl) (by kernel_rfl) (fun _ _ _ h => h) (Or.inl ⟨by rfl, ?_⟩) (by assumption) ?_
              rotate_left 1
              · (intro w hSw; (try dsimp only at hSw); go_simp <;> (with_reducible rfl))
              (first | ((fail_if_success (unfold Act.put)); (try simp only [List.setIfInBounds_toArray, List.set_cons_zero, List.set_cons_succ])) | (try simp only [Act.put, List.setIfInBounds_toArray, List.set_cons_zero, List.set_cons_succ]))
              refine wpAnyH_take (i := 11) (oi := { dst := some 114, op := Op.move (Operand.tmp 7), type := 3, pos := "law.go:106", after := #[{ on := 8, ground := Ground.guard }], guard := some (8, false) }) (v := ?_) rfl (by kernel_rfl) (by kernel_rfl) (by kernel_rfl) (fun _ _ _ h => h) (Or.inl ⟨by rfl, ?_⟩) (by assumption) ?_
              rotate_left 1
              · (intro w hSw; (try dsimp only at hSw); go_simp <;> (with_reducible rfl))
              (first | ((fail_if_success (unfold Act.put)); (try simp only [List.setIfInBounds_toArray, List.set_cons_zero, List.set_cons_succ])) | (try simp only [Act.put, List.setIfInBounds_toArray, List.set_cons_zero, List.set_cons_succ]))
              refine wpAnyH_take (i := 12) (oi := { dst := some 115, op := Op.indexAddr 28 (Operand.tmp 113) (Operand.tmp 114), type := 0, pos := "law.go:106", after := #[{ on := 10, ground := Ground.data }, { on := 11, ground := Ground.data }, { on := 8, ground := Ground.guard }], guard := some (8, false) }) (v := ?_) rfl (by kernel_rfl) (by kernel_rfl) (by kernel_rfl) (fun _ _ _ h => h) (Or.inl ⟨by rfl, ?_⟩) (by assumption) ?_
              rotate_left 1
              · (intro w hSw; (try dsimp only at hSw); go_simp <;> (with_reducible rfl))
              (first | ((fail_if_success (unfold Act.put)); (try simp only [List.setIfInBounds_toArray, List.set_cons_zero, List.set_cons_succ])) | (try simp only [Act.put, List.setIfInBounds_toArray, List.set_cons_zero, List.set_cons_succ]))
              refine wpAnyH_take (i := 13) (oi := { dst := some 116, op := Op.load 3 (Operand.tmp 115), type := 3, pos := "law.go:106", after := #[{ on := 12, ground := Ground.data }, { on := 8, ground := Ground.guard }], guard := some (8, false) }) (v := ?_) rfl (by kernel_rfl) (by kernel_rfl) (by kernel_rfl) (fun _ _ _ h => h) (Or.inl ⟨by rfl, ?_⟩) (by assumption) ?_
              rotate_left 1
              · (intro w hSw; (try dsimp only at hSw); go_simp <;> (with_reducible rfl))
              (first | ((fail_if_success (unfold Act.put)); (try simp only [List.setIfInBounds_toArray, List.set_cons_zero, List.set_cons_succ])) | (try simp only [Act.put, List.setIfInBounds_toArray, List.set_cons_zero, List.set_cons_succ]))
              refine wpAnyH_take (i := 14) (oi := { dst := some 117, op := Op.move (Operand.tmp 6), type := 28, pos := "law.go:106", after := #[{ on := 8, ground := Ground.guard }], guard := some (8, false) }) (v := ?_) rfl (by kernel_rfl) (by kernel_rfl) (by kernel_rfl) (fun _ _ _ h => h) (Or.inl ⟨by rfl, ?_⟩) (by assumption) ?_
              rotate_left 1
              · (intro w hSw; (try dsimp only at hSw); go_simp <;> (with_reducible rfl))
              (first | ((fail_if_success (unfold Act.put)); (try simp only [List.setIfInBounds_toArray, List.set_cons_zero, List.set_cons_succ])) | (try simp only [Act.put, List.setIfInBounds_toArray, List.set_cons_zero, List.set_cons_succ]))
              refine wpAnyH_take (i := 15) (oi := { dst := some 118, op := Op.move (Operand.tmp 8), type := 3, pos := "law.go:106", after := #[{ on := 8, ground := Ground.guard }], guard := some (8, false) }) (v := ?_) rfl (by kernel_rfl) (by kernel_rfl) (by kernel_rfl) (fun _ _ _ h => h) (Or.inl ⟨by rfl, ?_⟩) (by assumption) ?_
              rotate_left 1
              · (intro w hSw; (try dsimp only at hSw); go_simp <;> (with_reducible rfl))
              (first | ((fail_if_success (unfold Act.put)); (try simp only [List.setIfInBounds_toArray, List.set_cons_zero, List.set_cons_succ])) | (try simp only [Act.put, List.setIfInBounds_toArray, List.set_cons_zero, List.set_cons_succ]))
              refine wpAnyH_take (i := 16) (oi := { dst := some 119, op := Op.indexAddr 28 (Operand.tmp 117) (Operand.tmp 118), type := 0, pos := "law.go:106", after := #[{ on := 14, ground := Ground.data }, { on := 15, ground := Ground.data }, { on := 8, ground := Ground.guard }], guard := some (8, false) }) (v := ?_) rfl (by kernel_rfl) (by kernel_rfl) (by kernel_rfl) (fun _ _ _ h => h) (Or.inl ⟨by rfl, ?_⟩) (by assumption) ?_
              rotate_left 1
              · (intro w hSw; (try dsimp only at hSw); go_simp <;> (with_reducible rfl))
              (first | ((fail_if_success (unfold Act.put)); (try simp only [List.setIfInBounds_toArray, List.set_cons_zero, List.set_cons_succ])) | (try simp only [Act.put, List.setIfInBounds_toArray, List.set_cons_zero, List.set_cons_succ]))
              refine wpAnyH_take (i := 17) (oi := { dst := some 120, op := Op.load 3 (Operand.tmp 119), type := 3, pos := "law.go:106", after := #[{ on := 16, ground := Ground.data }, { on := 8, ground := Ground.guard }], guard := some (8, false) }) (v := ?_) rfl (by kernel_rfl) (by kernel_rfl) (by kernel_rfl) (fun _ _ _ h => h) (Or.inl ⟨by rfl, ?_⟩) (by assumption) ?_
              rotate_left 1
              · (intro w hSw; (try dsimp only at hSw); go_simp <;> (with_reducible rfl))
              (first | ((fail_if_success (unfold Act.put)); (try simp only [List.setIfInBounds_toArray, List.set_cons_zero, List.set_cons_succ])) | (try simp only [Act.put, List.setIfInBounds_toArray, List.set_cons_zero, List.set_cons_succ]))
              refine wpAnyH_ready (rs := [18]) (by kernel_rfl) (by simp) ?_
              refine AllReadyH.cons (o := { dst := some 121, op := Op.call { callee := Callee.value (Operand.func 10), args := #[Operand.tmp 112, Operand.tmp 116, Operand.tmp 120], argTypes := #[22, 3, 3] }, type := 4, pos := "law.go:106", after := #[{ on := 9, ground := Ground.data }, { on := 13, ground := Ground.data }, { on := 17, ground := Ground.data }, { on := 8, ground := Ground.chain }, { on := 8, ground := Ground.guard }], guard := some (8, false) }) rfl (fun K hK => ?_) AllReadyH.nil
              go_simp
              go_at_call 10; refine (HA.out _ [(x, z)] x z HBX.out HBZ.out (by simp) _ Ha2.out).mono ?_; rintro e w18 ⟨rfl, hb⟩; have HB := Lib.hid (HB2.out.trans (hb.mono HB2.out.size)); have hN17 : N < w17.heap.size := Nat.lt_of_lt_of_le hNl HB2.out.size
              (try go_wp2_with fail)
              refine hK.out _ _ (⟨(hb.cell (p := ⟨N, i, none⟩) hN17).trans hR2.1, (hb.cell (p := ⟨N, k, none⟩) hN17).trans hR2.2⟩) (fun hR3 => ?_)
              clear hK K hR2
              (first | ((fail_if_success (unfold Act.put)); (try simp only [List.setIfInBounds_toArray, List.set_cons_zero, List.set_cons_succ])) | (try simp only [Act.put, List.setIfInBounds_toArray, List.set_cons_zero, List.set_cons_succ]))
              clear hb HB2
              refine wpAnyH_take (i := 19) (oi := { dst := some 122, op := Op.unOp UnOp.not 4 (Operand.tmp 121), type := 4, pos := "law.go:106", after := #[{ on := 18, ground := Ground.data }, { on := 8, ground := Ground.guard }], guard := some (8, false) }) (v := ?_) rfl (by kernel_rfl) (by kernel_rfl) (by kernel_rfl) (fun _ _ _ h => h) (Or.inl ⟨by rfl, ?_⟩) (by assumption) ?_
              rotate_left 1
              · (intro w hSw; (try dsimp only at hSw); go_simp <;> (with_reducible rfl))
              (first | ((fail_if_success (unfold Act.put)); (try simp only [List.setIfInBounds_toArray, List.set_cons_zero, List.set_cons_succ])) | (try simp only [Act.put, List.setIfInBounds_toArray, List.set_cons_zero, List.set_cons_succ]))
              refine wpAnyH_take (i := 20) (oi := { dst := some 123, op := Op.pick (Operand.tmp 111) (Operand.const (Value.bool true)) (Operand.tmp 122), type := 4, pos := "law.go:106", after := #[{ on := 8, ground := Ground.data }, { on := 19, ground := Ground.data }], guard := none }) (v := ?_) rfl (by kernel_rfl) (by kernel_rfl) (by kernel_rfl) (fun _ _ _ h => h) (Or.inl ⟨by rfl, ?_⟩) (by assumption) ?_
              rotate_left 1
              · (intro w hSw; (try dsimp only at hSw); go_simp <;> (with_reducible rfl))
              (first | ((fail_if_success (unfold Act.put)); (try simp only [List.setIfInBounds_toArray, List.set_cons_zero, List.set_cons_succ])) | (try simp only [Act.put, List.setIfInBounds_toArray, List.set_cons_zero, List.set_cons_succ]))
              refine wpAnyH_done (by kernel_rfl) ?_ _
              refine NoPanic.normal ?_
              clear hR3
              go_wp2_with fail
              go_roundw
              case rel => (repeat apply Exists.intro); refine ⟨?_, rfl⟩; exact ⟨k + 1, by omega, by go_num, HB⟩
              case measure => simp [intOf]; omega
            · obtain rfl : k = 8 := by omega
              go_wp2_with fail
              go_roundw
              case rel => exact ⟨i + 1, by omega, by go_num, HB⟩
              case measure => simp [intOf]; omega
        · obtain rfl : i = 8 := by omega
          have HBZ := Lib.hid (HBA.out.trans (HB.out.mono HBA.out.size))
          go_wp2_with fail
          refine (HM.out _ [] (by simp) _ (Spn.nil _)).mono ?_
          rintro e w19 ⟨rfl, hb⟩
          replace HBZ := Lib.hid (HBZ.out.trans (hb.mono HBZ.out.size))
          clear hb
          go_wp2_with fail
          refine (HA.out _ [] 0 0 (by omega) (by omega) (by simp) _ (Spn.nil _)).mono ?_
          rintro e w20 ⟨rfl, hb⟩
          replace HBZ := Lib.hid (HBZ.out.trans (hb.mono HBZ.out.size))
          clear hb
          go_wp2_with fail
          refine (awake_any _).mono ?_
          rintro e w21 ⟨rfl, hb⟩
          replace HBZ := Lib.hid (HBZ.out.trans (hb.mono HBZ.out.size))
          clear hb
          go_wp2
          go_ret
          exact ⟨rfl, HBZ.out⟩

end Go.Proofs.YtanlaejdibikiaaGreat
