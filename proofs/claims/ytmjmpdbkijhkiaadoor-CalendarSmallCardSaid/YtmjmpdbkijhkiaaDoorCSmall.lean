/-
'CalendarSmall': its loops.
-/
import Derived.Test.YtmjmpdbkijhkiaaDoorCRefParse
import Derived.Deep.RegionHeld3
namespace Go.Proofs.YtmjmpdbkijhkiaaDoor
open Go.RowKit

def endV (j : Nat) : Int := match j with | 0 => -9223372036854775808 | 1 => -9223372036854775807 | 2 => -2154 | 3 => -2153 | 4 => -1 | 5 => 0 | 6 => 1 | 7 => 2153 | 8 => 2154 | 9 => 65534 | 10 => 65535 | 11 => 65536 | _ => 9223372036854775807

def Ends (E : Nat) (W : World) : Prop := ∀ j, j < 13 → W.cell? ⟨E, j, none⟩ = some (.int .i64 (endV j))

theorem conv_drew (w : World) (x : Int) (g : Nat) (hg : g = w.heap.size) (T : TypeId) :
    (convert 33 9 (.slice (some ⟨g, 0, none⟩) 1 1)).run Tryd.prog (w.alloc (.cells #[.int .u8 x] T)).drew = .ok (.string (strOfNums [x])) (w.alloc (.cells #[.int .u8 x] T)).drew := by
  subst hg
  refine run_convert_bytes_arg (P := Tryd.prog) _ 33 5 Tryd.underlying33 Tryd.underlying5 w.heap.size 0 1 1 [x] rfl (fun i hi => ?_) 9 Tryd.underlying9
  obtain rfl : i = 0 := by omega
  show (w.alloc (.cells #[.int .u8 x] T)).cell? _ = _
  rw [World.cell?_alloc_at _ _ _ _ rfl]
  rfl

theorem Ends.st {E : Nat} {wE w : World} (h : Ends E wE) (hlt : E < wE.heap.size) (hs : St wE w) : Ends E w := fun j hj => (hs.below.cell (p := ⟨E, j, none⟩) hlt).trans (h j hj)
theorem endV_bd (j : Nat) : I64 (endV j) := by
  unfold endV
  split <;> omega

set_option maxRecDepth 100000 in
set_option maxHeartbeats 8000000 in
theorem Small_walk : Ret 7 #[] (.bool true) := by
  intro w0 w hS
  have HS0 := Lib.hid (St.refl hS.at)
  have HSW := Lib.hid hS
  clear hS
  go_enter Tryd.func7, Tryd.ntmps7
  go_wp2
  go_loopw [1] (fun v1 wr => ∃ m : Int, -2 ≤ m ∧ m ≤ 2157 ∧ v1 = .int .i64 m ∧ St w wr) (fun v1 _ => (2157 - intOf v1).toNat)
  case atStart => exact ⟨-2, by omega, by omega, rfl, HS0.out⟩
  case round =>
    rename_i wr
    obtain ⟨m, hm0, hm1, rfl, hst⟩ := hrel
    have HS := Lib.hid hst
    clear hst
    by_cases hlt : m < 2157
    · have HP := Lib.hid (r_pick m 2154 (by omega) (by omega))
      have hg : 0 ≤ m % 2154 ∧ m % 2154 < 2154 := by omega
      obtain ⟨G, HG⟩ : ∃ G, Hid (G = m % 2154) := ⟨_, Lib.hid rfl⟩
      rw [← HG.out] at HP hg
      have HF := Lib.hid (ref_first G hg.1 hg.2).ret
      have hs := Cal.start_bd hg.1 (show G ≤ 2154 by omega)
      clear HG
      by_cases hneg : m < 0
      · rcases (show m = -2 ∨ m = -1 by omega) with rfl | rfl
        all_goals
          go_wp2_with (first
            | (go_at_call 27; ((with_reducible refine (HP.out.go HS.out).mono ?_); rintro e w' ⟨rfl, hs⟩; replace HS := Lib.hid hs; clear hs))
            | (go_at_call 26; ((with_reducible refine (HF.out.go HS.out).mono ?_); rintro e w' ⟨rfl, hs⟩; replace HS := Lib.hid hs; clear hs))
            | (go_at_call 22; ((with_reducible refine ((r_tells _).go HS.out).mono ?_); rintro e w' ⟨rfl, hs⟩; replace HS := Lib.hid hs; clear hs))
            | (go_at_call 23; ((with_reducible refine ((r_moves _ _ _).go HS.out).mono ?_); rintro e w' ⟨rfl, hs⟩; replace HS := Lib.hid hs; clear hs)))
          go_roundw
          case rel => exact ⟨_, by omega, by omega, rfl, HS.out⟩
          case measure => simp [intOf] <;> omega
      · have h0m : 0 ≤ m := by omega
        by_cases h7 : m % 7 = 0
        all_goals
          go_wp2_with (first
            | (go_at_call 27; ((with_reducible refine (HP.out.go HS.out).mono ?_); rintro e w' ⟨rfl, hs⟩; replace HS := Lib.hid hs; clear hs))
            | (go_at_call 26; ((with_reducible refine (HF.out.go HS.out).mono ?_); rintro e w' ⟨rfl, hs⟩; replace HS := Lib.hid hs; clear hs))
            | (go_at_call 22; ((with_reducible refine ((r_tells _).go HS.out).mono ?_); rintro e w' ⟨rfl, hs⟩; replace HS := Lib.hid hs; clear hs))
            | (go_at_call 23; ((with_reducible refine ((r_moves _ _ _).go HS.out).mono ?_); rintro e w' ⟨rfl, hs⟩; replace HS := Lib.hid hs; clear hs)))
          go_roundw
          case rel => exact ⟨_, by omega, by omega, rfl, HS.out⟩
          case measure => simp [intOf] <;> omega
    · obtain rfl : m = 2157 := by omega
      go_wp2
      obtain ⟨wE, hwE⟩ : ∃ wE : World, wE = wr.alloc (.cells #[.int .i64 (-9223372036854775808), .int .i64 (-9223372036854775807), .int .i64 (-2154), .int .i64 (-2153), .int .i64 (-1), .int .i64 0, .int .i64 1, .int .i64 2153, .int .i64 2154, .int .i64 65534, .int .i64 65535, .int .i64 65536, .int .i64 9223372036854775807] 3) := ⟨_, rfl⟩
      have HSE : Hid (St w wE) := by rw [hwE]; exact HS.out.alloc _
      have HE : Hid (Ends wr.heap.size wE) := by
        rw [hwE]
        intro j hj
        rw [World.cell?_alloc_at _ _ _ _ rfl]
        match j, hj with
        | 0, _ | 1, _ | 2, _ | 3, _ | 4, _ | 5, _ | 6, _ | 7, _ | 8, _ | 9, _ | 10, _ | 11, _ | 12, _ => rfl
      have HEL := Lib.hid (show wr.heap.size < wE.heap.size by rw [hwE]; simp)
      rw [← hwE]
      clear hwE
      obtain ⟨E, hEE⟩ : ∃ E, E = wr.heap.size := ⟨_, rfl⟩
      rw [← hEE] at HE HEL ⊢
      clear hEE
      go_loopw [6] (fun v6 wr => ∃ i : Nat, i ≤ 13 ∧ v6 = .int .i64 (i : Int) ∧ St wE wr) (fun v6 _ => (13 - intOf v6).toNat)
      case atStart => exact ⟨0, by omega, rfl, St.refl HSE.out.at⟩
      case round =>
        rename_i wr2
        obtain ⟨i, hi, rfl, hst⟩ := hrel
        have HS2 := Lib.hid hst
        clear hst
        by_cases hi13 : i < 13
        · have hbi : decide ((i : Int) < 13) = true := by simp; omega
          go_wp2
          go_loopw [7] (fun v7 wr => ∃ k : Nat, k ≤ 13 ∧ v7 = .int .i64 (k : Int) ∧ St wE wr) (fun v7 _ => (13 - intOf v7).toNat)
          case atStart => exact ⟨0, by omega, rfl, HS2.out⟩
          case round =>
            rename_i wr3
            obtain ⟨k, hk, rfl, hst⟩ := hrel
            have HS3 := Lib.hid hst
            clear hst HS2
            by_cases hk13 : k < 13
            · obtain ⟨U, HU⟩ : ∃ U, Hid (U = endV i) := ⟨_, Lib.hid rfl⟩
              obtain ⟨V, HV⟩ : ∃ V, Hid (V = endV k) := ⟨_, Lib.hid rfl⟩
              obtain ⟨J, HJ⟩ : ∃ J : Nat, Hid (J = (i + k) % 13) := ⟨_, Lib.hid rfl⟩
              obtain ⟨X, HX⟩ : ∃ X, Hid (X = endV J) := ⟨_, Lib.hid rfl⟩
              have hJ : J < 13 := by rw [HJ.out]; exact Nat.mod_lt _ (by decide)
              obtain ⟨p2, HP2⟩ : ∃ p2 : Nat, Hid (p2 = i % 2) := ⟨_, Lib.hid rfl⟩
              have hp2 : p2 ≤ 1 := by have := HP2.out; omega
              obtain ⟨p4, HP4⟩ : ∃ p4 : Nat, Hid (p4 = i % 4) := ⟨_, Lib.hid rfl⟩
              have hp4 : p4 ≤ 3 := by have := HP4.out; omega
              have HVb := Lib.hid (endV_bd k)
              rw [← HV.out] at HVb
              have HC : Hid (∀ W, St wE W → W.cell? ⟨E, i, none⟩ = some (.int .i64 U) ∧ W.cell? ⟨E, k, none⟩ = some (.int .i64 V) ∧ W.cell? ⟨E, J, none⟩ = some (.int .i64 X)) := fun W hW => by
                have h := HE.out.st HEL.out hW
                rw [HU.out, HV.out, HX.out]
                exact ⟨h i hi13, h k hk13, h J hJ⟩
              have HM := Lib.hid (show I64 (1 + (k : Int)) by omega)
              have HD1 := Lib.hid (Days_walk U V 1 HVb.out)
              have HD2 := Lib.hid (Days_walk (1900 + 180 * (p2 : Int)) (1 + (k : Int)) (29 + (p4 : Int)) HM.out)
              have HD3 := Lib.hid (Days_walk 2079 6 V (by omega))
              have i1 : (0 : Int) ≤ (i : Int) := by omega
              have i2 : (i : Int) < 13 := by omega
              have k1 : (0 : Int) ≤ (k : Int) := by omega
              have k2 : (k : Int) < 13 := by omega
              have j1 : (0 : Int) ≤ (J : Int) := by omega
              have j2 : (J : Int) < 13 := by omega
              have w1 : IntKind.i64.wrap ((i : Int) + (k : Int)) = (i : Int) + (k : Int) := IntWalk.i64_in _ (by omega)
              have w2 : ((i : Int) + (k : Int)).tmod 13 = (J : Int) := by rw [Int.tmod_eq_emod_of_nonneg (by omega)]; have := HJ.out; have := HP2.out; have := HP4.out; omega
              have w4 : (i : Int).tmod 2 = (p2 : Int) := by rw [Int.tmod_eq_emod_of_nonneg (by omega)]; have := HJ.out; have := HP2.out; have := HP4.out; omega
              have w5 : IntKind.i64.wrap (180 * (p2 : Int)) = 180 * (p2 : Int) := IntWalk.i64_in _ (by omega)
              have w6 : IntKind.i64.wrap (1900 + 180 * (p2 : Int)) = 1900 + 180 * (p2 : Int) := IntWalk.i64_in _ (by omega)
              have w7 : IntKind.i64.wrap (1 + (k : Int)) = 1 + (k : Int) := IntWalk.i64_in _ (by omega)
              have w8 : (i : Int).tmod 4 = (p4 : Int) := by rw [Int.tmod_eq_emod_of_nonneg (by omega)]; have := HJ.out; have := HP2.out; have := HP4.out; omega
              have w9 : IntKind.i64.wrap (29 + (p4 : Int)) = 29 + (p4 : Int) := IntWalk.i64_in _ (by omega)
              go_wp2
              obtain ⟨c1, c2, c3⟩ := HC.out _ HS3.out.drew
              have HS := Lib.hid HS3.out.drew
              go_region_held3 (fun w' => w'.cell? ⟨E, i, none⟩ = some (.int .i64 U) ∧ w'.cell? ⟨E, k, none⟩ = some (.int .i64 V) ∧ w'.cell? ⟨E, J, none⟩ = some (.int .i64 X)) (first | exact ⟨c1, c2, c3⟩ | go_keep) (first
                | (go_at_call 23; ((with_reducible refine ((r_moves _ _ _).go HS.out).mono ?_); rintro e w' ⟨rfl, hs⟩; clear c1 c2 c3; obtain ⟨c1, c2, c3⟩ := HC.out _ hs; replace HS := Lib.hid hs; clear hs))
                | (go_at_call 3; ((with_reducible refine (HD1.out.go HS.out).mono ?_); rintro e w' ⟨rfl, hs⟩; clear c1 c2 c3; obtain ⟨c1, c2, c3⟩ := HC.out _ hs; replace HS := Lib.hid hs; clear hs))
                | (go_at_call 3; ((with_reducible refine (HD2.out.go HS.out).mono ?_); rintro e w' ⟨rfl, hs⟩; clear c1 c2 c3; obtain ⟨c1, c2, c3⟩ := HC.out _ hs; replace HS := Lib.hid hs; clear hs))
                | (go_at_call 3; ((with_reducible refine (HD3.out.go HS.out).mono ?_); rintro e w' ⟨rfl, hs⟩; clear c1 c2 c3; obtain ⟨c1, c2, c3⟩ := HC.out _ hs; replace HS := Lib.hid hs; clear hs)))
              clear w1 w2 w4 w5 w6 w7 w8 w9
              go_wp2
              go_roundw
              case rel => exact ⟨k + 1, by omega, by go_num, HS.out⟩
              case measure => simp [intOf]; omega
            · have hk13' : ¬ (k : Int) < 13 := by omega
              go_wp2
              go_roundw
              case rel => exact ⟨i + 1, by omega, by go_num, HS3.out⟩
              case measure => simp [intOf]; omega
        · have hi13' : ¬ (i : Int) < 13 := by omega
          go_wp2
          go_loopw [9] (fun v9 wr => ∃ i : Nat, i ≤ 10 ∧ v9 = .int .i64 (i : Int) ∧ St wE wr) (fun v9 _ => (10 - intOf v9).toNat)
          case atStart => exact ⟨0, by omega, rfl, HS2.out⟩
          case round =>
            rename_i wr4
            clear hi13 hi13' hi
            obtain ⟨i, hi, rfl, hst⟩ := hrel
            have HS4 := Lib.hid hst
            clear hst HS2
            by_cases hi10 : i < 10
            · have hbi : decide ((i : Int) < 10) = true := by simp; omega
              go_wp2
              go_loopw [10] (fun v10 wr => ∃ c : Nat, c ≤ 256 ∧ v10 = .int .i64 (c : Int) ∧ St wE wr) (fun v10 _ => (256 - intOf v10).toNat)
              case atStart => exact ⟨0, by omega, rfl, HS4.out⟩
              case round =>
                rename_i wr5
                obtain ⟨c, hc, rfl, hst⟩ := hrel
                have HS5 := Lib.hid hst
                clear hst HS4
                by_cases hc256 : c < 256
                · have hcv := fun (w : World) (x : Int) (g : Nat) (hg : g = w.heap.size) => conv_drew w x g hg 5
                  have i4 : (0 : Int) ≤ (i : Int) + 1 := by omega
                  have i5 : ((i : Int) + 1).toNat = i + 1 := by omega
                  have i1 : (0 : Int) ≤ (i : Int) := by omega
                  have i2 : (i : Int) ≤ 10 := by omega
                  have i3 : (i : Int) + 1 ≤ 10 := by omega
                  have c1 : (0 : Int) ≤ (c : Int) := by omega
                  have c2 : (c : Int) ≤ 255 := by omega
                  have w1 : IntKind.i64.wrap ((i : Int) + 1) = (i : Int) + 1 := IntWalk.i64_in _ (by omega)
                  have w2 : IntKind.u8.wrap (c : Int) = (c : Int) := IntWalk.u8_in _ (by omega)
                  have z0 : (ByteArray.mk #[50, 48, 48, 48, 45, 48, 50, 45, 50, 57]).size = 10 := rfl
                  have z1 : (strOfNums [(c : Int)]).size = 1 := strOfNums_size _
                  have z2 : min i 10 = i := by omega
                  have s1 : ¬ (9223372036854775807 < i + 1) := by omega
                  have s2 : ¬ (9223372036854775807 < i + 1 + (10 - (i + 1))) := by omega
                  have s3 : ¬ (9223372036854775807 < i + 1 + (9 - i)) := by omega
                  have HS := Lib.hid HS5.out.drew
                  go_wp2
                  refine wp_region_noPanic ?_
                  refine wp_region_held_drew (S := fun _ => True) (by kernel_rfl) trivial (fun h0 => ?_)
                  refine wpAnyH_take (i := 0) (oi := _) (v := ?_) rfl (by kernel_rfl) (by kernel_rfl) (by kernel_rfl) (fun _ _ _ h => h) (Or.inl ⟨by rfl, ?_⟩) (by assumption) ?_
                  rotate_left 1
                  · (intro w hSw; (try dsimp only at hSw); go_simp <;> (with_reducible rfl))
                  (try simp only [Act.put, List.setIfInBounds_toArray])
                  refine wpAnyH_take (i := 1) (oi := _) (v := ?_) rfl (by kernel_rfl) (by kernel_rfl) (by kernel_rfl) (fun _ _ _ h => h) (Or.inl ⟨by rfl, ?_⟩) (by assumption) ?_
                  rotate_left 1
                  · (intro w hSw; (try dsimp only at hSw); go_simp <;> (with_reducible rfl))
                  (try simp only [Act.put])
                  refine wpAnyH_take (i := 2) (oi := _) (v := ?_) rfl (by kernel_rfl) (by kernel_rfl) (by kernel_rfl) (fun _ _ _ h => h) (Or.inl ⟨by rfl, ?_⟩) (by assumption) ?_
                  rotate_left 1
                  · (intro w hSw; (try dsimp only at hSw); go_simp <;> (with_reducible rfl))
                  (try simp only [Act.put])
                  refine wpAnyH_take (i := 3) (oi := _) (v := ?_) rfl (by kernel_rfl) (by kernel_rfl) (by kernel_rfl) (fun _ _ _ h => h) (Or.inl ⟨by rfl, ?_⟩) (by assumption) ?_
                  rotate_left 1
                  · (intro w hSw; (try dsimp only at hSw); go_simp <;> (with_reducible rfl))
                  (try simp only [Act.put])
                  refine wpAnyH_take (i := 4) (oi := _) (v := ?_) rfl (by kernel_rfl) (by kernel_rfl) (by kernel_rfl) (fun _ _ _ h => h) (Or.inl ⟨by rfl, ?_⟩) (by assumption) ?_
                  rotate_left 1
                  · (intro w hSw; (try dsimp only at hSw); go_simp <;> (with_reducible rfl))
                  (try simp only [Act.put])
                  refine wpAnyH_take (i := 8) (oi := _) (v := ?_) rfl (by kernel_rfl) (by kernel_rfl) (by kernel_rfl) (fun _ _ _ h => h) (Or.inl ⟨by rfl, ?_⟩) (by assumption) ?_
                  rotate_left 1
                  · (intro w hSw; (try dsimp only at hSw); go_simp <;> (with_reducible rfl))
                  (try simp only [Act.put])
                  refine wpAnyH_take (i := 9) (oi := _) (v := ?_) rfl (by kernel_rfl) (by kernel_rfl) (by kernel_rfl) (fun _ _ _ h => h) (Or.inl ⟨by rfl, ?_⟩) (by assumption) ?_
                  rotate_left 1
                  · (intro w hSw; (try dsimp only at hSw); go_simp <;> (with_reducible rfl))
                  (try simp only [Act.put])
                  refine wpAnyH_take (i := 10) (oi := _) (v := ?_) rfl (by kernel_rfl) (by kernel_rfl) (by kernel_rfl) (fun _ _ _ h => h) (Or.inl ⟨by rfl, ?_⟩) (by assumption) ?_
                  rotate_left 1
                  · (intro w hSw; (try dsimp only at hSw); go_simp <;> (with_reducible rfl))
                  (try simp only [Act.put])
                  refine wpAnyH_take (i := 11) (oi := _) (v := ?_) rfl (by kernel_rfl) (by kernel_rfl) (by kernel_rfl) (fun _ _ _ h => h) (Or.inl ⟨by rfl, ?_⟩) (by assumption) ?_
                  rotate_left 1
                  · (intro w hSw; (try dsimp only at hSw); go_simp <;> (with_reducible rfl))
                  (try simp only [Act.put])
                  refine wpAnyH_ready (rs := [5]) (by kernel_rfl) (by simp) ?_
                  refine AllReadyH.cons (o := _) rfl (fun K hK => ?_) AllReadyH.nil
                  go_simp
                  refine hK.out _ _ trivial (fun _ => ?_)
                  clear hK K
                  (try simp only [Act.put, List.setIfInBounds_toArray, List.set_cons_zero, List.set_cons_succ])
                  refine wpAnyH_ready (rs := [6]) (by kernel_rfl) (by simp) ?_
                  refine AllReadyH.cons (o := _) rfl (fun K hK => ?_) AllReadyH.nil
                  go_simp
                  refine hK.out _ _ trivial (fun _ => ?_)
                  clear hK K
                  (try simp only [Act.put, List.setIfInBounds_toArray, List.set_cons_zero, List.set_cons_succ])
                  refine wpAnyH_take (i := 7) (oi := _) (v := ?_) rfl (by kernel_rfl) (by kernel_rfl) (by kernel_rfl) (fun _ _ _ h => h) (Or.inl ⟨by rfl, ?_⟩) (by assumption) ?_
                  rotate_left 1
                  · (intro w hSw; (try dsimp only at hSw); go_simp <;> (with_reducible rfl))
                  (try simp only [Act.put, List.setIfInBounds_toArray])
                  refine wpAnyH_take (i := 12) (oi := _) (v := ?_) rfl (by kernel_rfl) (by kernel_rfl) (by kernel_rfl) (fun _ _ _ h => h) (Or.inl ⟨by rfl, ?_⟩) (by assumption) ?_
                  rotate_left 1
                  · (intro w hSw; (try dsimp only at hSw); go_simp <;> (with_reducible rfl))
                  (try simp only [Act.put])
                  refine wpAnyH_ready (rs := [13]) (by kernel_rfl) (by simp) ?_
                  refine AllReadyH.cons (o := _) rfl (fun K hK => ?_) AllReadyH.nil
                  go_simp
                  go_at_call 6
                  refine ((r_reads _).go (HS5.out.alloc _).drew).mono ?_
                  rintro e w' ⟨rfl, hs⟩
                  have HS6 := Lib.hid hs
                  clear hs
                  (try go_wp2_with fail)
                  refine hK.out _ _ trivial (fun _ => ?_)
                  clear hK K
                  (try simp only [Act.put, List.setIfInBounds_toArray, List.set_cons_zero, List.set_cons_succ])
                  refine wpAnyH_take (i := 14) (oi := _) (v := ?_) rfl (by kernel_rfl) (by kernel_rfl) (by kernel_rfl) (fun _ _ _ h => h) (Or.inl ⟨by rfl, ?_⟩) (by assumption) ?_
                  rotate_left 1
                  · (intro w hSw; (try dsimp only at hSw); go_simp <;> (with_reducible rfl))
                  (try simp only [Act.put, List.setIfInBounds_toArray])
                  refine wpAnyH_done (by kernel_rfl) ?_ _
                  refine NoPanic.normal ?_
                  clear s1 s2 s3 z0 z1 z2 w1 w2 hcv
                  go_wp2
                  go_roundw
                  case rel => exact ⟨c + 1, by omega, by go_num, HS6.out⟩
                  case measure => simp [intOf]; omega
                · have hc256' : ¬ (c : Int) < 256 := by omega
                  have i1 : (0 : Int) ≤ (i : Int) := by omega
                  have i2 : (i : Int) ≤ 10 := by omega
                  have HS := Lib.hid HS5.out.drew
                  have z0 : (ByteArray.mk #[50, 48, 48, 48, 45, 48, 50, 45, 50, 57]).size = 10 := rfl
                  have z1 : (ByteArray.mk #[48]).size = 1 := rfl
                  have z2 : min i 10 = i := by omega
                  have s1 : ¬ (9223372036854775807 < i + 1) := by omega
                  have s2 : ¬ (9223372036854775807 < i + 1 + (10 - i)) := by omega
                  go_wp2
                  go_region_held3 (fun _ => True) (first | trivial | go_keep) (first
                    | (go_at_call 6; ((with_reducible refine ((r_reads _).go HS.out).mono ?_); rintro e w' ⟨rfl, hs⟩; replace HS := Lib.hid hs; clear hs)))
                  clear s1 s2 z0 z1 z2
                  go_wp2
                  go_roundw
                  case rel => exact ⟨i + 1, by omega, by go_num, HS.out⟩
                  case measure => simp [intOf]; omega
            · have hi10' : ¬ (i : Int) < 10 := by omega
              have HS := Lib.hid HS4.out
              go_wp2_with (first
                | (go_at_call 6; ((with_reducible refine ((r_reads _).go HS.out).mono ?_); rintro e w' ⟨rfl, hs⟩; replace HS := Lib.hid hs; clear hs))
                | (go_at_call 21; ((with_reducible refine (r_awake.go HS.out).mono ?_); rintro e w' ⟨rfl, hs⟩; replace HS := Lib.hid hs; clear hs)))
              go_ret
              exact ⟨rfl, HSW.out.trans (HSE.out.trans HS.out)⟩

end Go.Proofs.YtmjmpdbkijhkiaaDoor
