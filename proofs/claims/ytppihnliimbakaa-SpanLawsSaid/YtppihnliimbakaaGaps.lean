/-
'SpanGaps': Bridge fills exactly the short gaps.
-/
import Derived.Test.YtppihnliimbakaaGapM
namespace Go.Proofs.Ytppihnliimbakaa
open Go.RowKit Go.Shelf Sp

theorem Bridge_is {v : Value} {l r : L} {d : Int} {w : World} (h0 : 0 ≤ d) (h9 : d ≤ 9223372036854775807) (hl : IsSet l) (hr : bridge d l = r) (h : Spn w v l) : Calls Try.prog 30 #[v, .int .i64 d] w (Gives r w) := by
  have := Bridge_ok v l d h0 h9 hl w h
  rwa [hr] at this
theorem Minus_is {va vb : Value} {a b r : L} {w : World} (ha : IsSet a) (hb : IsSet b) (hr : comb opD a b = r) (hla : Spn w va a) (hlb : Spn w vb b) : Calls Try.prog 18 #[va, vb] w (Gives r w) := by
  have := Minus_ok va vb a b ha hb w hla hlb
  rwa [hr] at this
theorem in_is {v : Value} {l : L} {d : Int} {r : Bool} {w : World} (hr : memB l d = r) (h : Spn w v l) : Calls Try.prog 20 #[v, .int .i64 d] w fun e w' => e = .returned (.bool r) ∧ w = w' := by
  have := in_any v l d w h
  rwa [hr] at this

/-- The facts, over letters. -/
structure GF (days : Int) (l b r : L) : Prop where
  g5 : ∀ k, 0 < k → k < b.length → days < (b[k]?.getD (0, 0)).1 - prevTo b k
  g6 : ∀ k, k < r.length → (r[k]?.getD (0, 0)).2 - (r[k]?.getD (0, 0)).1 ≤ days ∧ memB l ((r[k]?.getD (0, 0)).1 - 1) = true ∧ memB l (r[k]?.getD (0, 0)).2 = true
  g7 : l ≠ [] → (b[0]?.getD (0, 0)).1 = (l[0]?.getD (0, 0)).1 ∧ (b[b.length - 1]?.getD (0, 0)).2 = (l[l.length - 1]?.getD (0, 0)).2

set_option maxRecDepth 100000 in
set_option maxHeartbeats 40000000 in
theorem SpanGaps_walk (s : Value) (m : List Nat) (days : Int) (hd : -9223372036854775808 ≤ days ∧ days ≤ 9223372036854775807) (w : World) (hm : Lm m) (h : Lim w s m) :
    Calls Try.prog 9 #[s, .int .i64 days] w (Says (.bool true) w) := by
  have HB := Lib.hid (Below.refl w.heap.size w)
  have HM := Lib.hid hm
  have HI := Lib.hid h
  obtain ⟨aa, cc, rfl, -⟩ := h
  obtain ⟨d0, d9⟩ := hd
  clear hm
  go_enter Try.func9, Try.ntmps9
  go_wp2_with fail
  refine (awake_any _).mono ?_
  rintro e w1 ⟨rfl, hb⟩
  replace HB := Lib.hid (HB.out.trans (hb.mono HB.out.size))
  clear hb
  go_wp2_with fail
  refine (Built_any _ _ HM.out w1 (HI.out.below HB.out (Nat.le_refl _))).mono ?_
  rintro e w2 ⟨⟨vl, ll, rfl, hset, h60, hown⟩, hb⟩
  replace HB := Lib.hid (HB.out.trans (hb.mono HB.out.size))
  have HSl := Lib.hid hset
  have Hl := Lib.hid (Spn.of_owns hown (by omega))
  have HLl := Lib.hid h60
  clear hset hown h60
  clear hb
  obtain ⟨al, cl, rfl⟩ := spn_slice Hl.out
  by_cases hneg : days < 0
  · go_wp2_with fail
    refine (Bridge_no _ _ days (.inr hneg) _ Hl.out).mono ?_
    rintro e w3 ⟨rfl, hb⟩
    replace Hl := Lib.hid (Hl.out.below hb (Nat.le_refl _))
    replace HB := Lib.hid (HB.out.trans (hb.mono HB.out.size))
    clear hb
    go_wp2
    go_ret
    exact ⟨rfl, HB.out⟩
  · have hgf := gap_facts (days := days) HSl.out
    obtain ⟨g1, g2, g3, g4, g5, g6, g7⟩ := hgf
    have sR := (comb_spec opD rfl g1 HSl.out).1
    obtain ⟨lb, hlb⟩ : ∃ x, bridge days ll = x := ⟨_, rfl⟩
    rw [hlb] at g1 g2 g3 g4 g5 g6 g7 sR
    obtain ⟨lr, hlr⟩ : ∃ x, comb opD lb ll = x := ⟨_, rfl⟩
    rw [hlr] at g6 sR
    have HG : Hid (GF days ll lb lr) := Lib.hid ⟨g5, g6, g7⟩
    have HSb := Lib.hid g1
    have HSr := Lib.hid sR
    have HW := Lib.hid g2
    have HBB := Lib.hid g3
    have HLB := Lib.hid hlb
    have HLR := Lib.hid hlr
    have hll := HSl.out.length
    have hbl := g1.length
    have hrl := sR.length
    obtain ⟨r0, hr0⟩ : ∃ r : Bool, ((ll.length : Int) == 0) = r := ⟨_, rfl⟩
    have hr1 : ((lb.length : Int) == 0) = r0 := by rw [← hr0, Bool.eq_iff_iff]; simp; simpa using g4.symm
    have e2 : ∀ r : Bool, (r != r) = false := fun r => by simp
    have H4 := Lib.hid g4
    clear g1 g2 g3 g4 g5 g6 g7 hlb hlr sR
    go_wp2_with fail
    refine (Bridge_is (by omega) d9 HSl.out HLB.out Hl.out).mono ?_
    rintro e w4 ⟨⟨vb, rfl, hown⟩, hb⟩
    replace Hl := Lib.hid (Hl.out.below hb (Nat.le_refl _))
    replace HB := Lib.hid (HB.out.trans (hb.mono HB.out.size))
    have Hb := Lib.hid (Spn.of_owns hown (by have := HSb.out.length; omega))
    clear hown
    clear hb
    obtain ⟨ab, cb, rfl⟩ := spn_slice Hb.out
    go_wp2_with fail
    refine (Bridge_is (by omega) d9 HSb.out HBB.out Hb.out).mono ?_
    rintro e w5 ⟨⟨ve, rfl, hown⟩, hb⟩
    replace Hl := Lib.hid (Hl.out.below hb (Nat.le_refl _))
    replace Hb := Lib.hid (Hb.out.below hb (Nat.le_refl _))
    replace HB := Lib.hid (HB.out.trans (hb.mono HB.out.size))
    have He := Lib.hid (Spn.of_owns hown (by have := HSb.out.length; omega))
    clear hown
    clear hb
    obtain ⟨ae, ce, rfl⟩ := spn_slice He.out
    go_wp2_with fail
    refine (Minus_is HSb.out HSl.out HLR.out Hb.out Hl.out).mono ?_
    rintro e w6 ⟨⟨vr, rfl, hown⟩, hb⟩
    replace Hl := Lib.hid (Hl.out.below hb (Nat.le_refl _))
    replace Hb := Lib.hid (Hb.out.below hb (Nat.le_refl _))
    replace He := Lib.hid (He.out.below hb (Nat.le_refl _))
    replace HB := Lib.hid (HB.out.trans (hb.mono HB.out.size))
    have Hr := Lib.hid (Spn.of_owns hown (by have := HSr.out.length; omega))
    clear hown
    clear hb
    obtain ⟨ar, cr, rfl⟩ := spn_slice Hr.out
    go_wp2_with fail
    refine (Valid_is ((vldB_iff _).2 HSb.out) Hb.out).mono ?_
    rintro e w7 ⟨rfl, hb⟩
    replace Hl := Lib.hid (Hl.out.below hb (Nat.le_refl _))
    replace Hb := Lib.hid (Hb.out.below hb (Nat.le_refl _))
    replace He := Lib.hid (He.out.below hb (Nat.le_refl _))
    replace Hr := Lib.hid (Hr.out.below hb (Nat.le_refl _))
    replace HB := Lib.hid (HB.out.trans (hb.mono HB.out.size))
    clear hb
    go_wp2_with fail
    refine (Within_is HSl.out HSb.out HW.out Hl.out Hb.out).mono ?_
    rintro e w8 ⟨rfl, hb⟩
    replace Hl := Lib.hid (Hl.out.below hb (Nat.le_refl _))
    replace Hb := Lib.hid (Hb.out.below hb (Nat.le_refl _))
    replace He := Lib.hid (He.out.below hb (Nat.le_refl _))
    replace Hr := Lib.hid (Hr.out.below hb (Nat.le_refl _))
    replace HB := Lib.hid (HB.out.trans (hb.mono HB.out.size))
    clear hb
    go_wp2_with fail
    refine (Same_eq rfl He.out Hb.out).mono ?_
    rintro e w9 ⟨rfl, hb⟩
    replace Hl := Lib.hid (Hl.out.below hb (Nat.le_refl _))
    replace Hb := Lib.hid (Hb.out.below hb (Nat.le_refl _))
    replace He := Lib.hid (He.out.below hb (Nat.le_refl _))
    replace Hr := Lib.hid (Hr.out.below hb (Nat.le_refl _))
    replace HB := Lib.hid (HB.out.trans (hb.mono HB.out.size))
    clear hb
    go_wp2_with fail
    go_loopw [12] (fun i wr => ∃ k : Nat, 1 ≤ k ∧ k ≤ lb.length + 1 ∧ i = .int .i64 k ∧ Below w9.heap.size w9 wr) (fun i _ => lb.length + 1 - (intOf i).toNat)
    case atStart => exact ⟨1, by omega, by omega, rfl, Below.refl _ _⟩
    case round =>
      obtain ⟨k, hk1, hk, rfl, hbw⟩ := hrel
      by_cases hlt : k < lb.length
      · obtain ⟨bb, ob, rfl, hbb, hc⟩ := Hb.out.block (by intro e; rw [e] at hlt; simp at hlt)
        have c1 := (hbw.cell (p := ⟨bb, ob + k * 2, none⟩) hbb).trans (hc k hlt).1
        have c2 : wr.cell? ⟨bb, ob + (k - 1) * 2 + 1, none⟩ = some (.int .i64 (prevTo lb k)) := (hbw.cell (p := ⟨bb, ob + (k - 1) * 2 + 1, none⟩) hbb).trans (hc (k - 1) (by omega)).2
        have h5 := HG.out.g5 k (by omega) hlt
        have hx := HSb.out.get hlt
        rw [← getD_eq hlt] at hx
        have hz := HSb.out.get (i := k - 1) (by omega)
        have ez := prevTo_eq (l := lb) (k := k) (by omega) (by omega)
        rw [← ez] at hz
        obtain ⟨x, ex⟩ : ∃ x, x = (lb[k]?.getD (0, 0)).1 := ⟨_, rfl⟩
        obtain ⟨z, ezz⟩ : ∃ z, z = prevTo lb k := ⟨_, rfl⟩
        rw [← ex] at c1 h5 hx
        rw [← ezz] at c2 h5 hz
        clear ex ezz ez hc
        have q1 : IntKind.i64.wrap ((k : Int) - 1) = (k : Int) - 1 := IntWalk.i64_in _ (by omega)
        have q2 : (1 : Int) ≤ (k : Int) := by omega
        have q3 : (k : Int) - 1 < (lb.length : Int) := by omega
        have q4 : ((k : Int) - 1).toNat = k - 1 := by omega
        have q5 : k - 1 < lb.length := by omega
        have q6 : IntKind.i64.wrap (x - z) = x - z := IntWalk.i64_in _ (by omega)
        have q7 : decide (x - z ≤ days) = false := by simp; omega
        have HD := Lib.hid hbw.drew
        go_wp2_with fail
        refine wp_region_noPanic ?_
        refine wp_region_held_drew (S := (fun w' => w'.cell? ⟨bb, ob + k * 2, none⟩ = some (.int .i64 x) ∧ w'.cell? ⟨bb, ob + (k - 1) * 2 + 1, none⟩ = some (.int .i64 z))) (by kernel_rfl) ⟨c1, c2⟩ (fun hR0 => ?_)
        change wpAnyH _ _ _ _ _ 14 #[false, false, false, false, false, false, false, false, false, false, false, false, false, false] _ _
        refine wpAnyH_take (i := 0) (oi := { dst := some 84, op := Op.move (Operand.tmp 6), type := 22, pos := "outright.go:143", after := #[], guard := none }) (v := ?_) rfl (by kernel_rfl) (by kernel_rfl) (by kernel_rfl) (fun _ _ _ h => h) (Or.inl ⟨by rfl, ?_⟩) (by assumption) ?_
        rotate_left 1
        · (intro w hSw; (try dsimp only at hSw); go_simp <;> (with_reducible rfl))
        (try simp only [Act.put, List.setIfInBounds_toArray, List.set_cons_zero, List.set_cons_succ])
        refine wpAnyH_take (i := 1) (oi := { dst := some 85, op := Op.move (Operand.tmp 12), type := 3, pos := "outright.go:143", after := #[], guard := none }) (v := ?_) rfl (by kernel_rfl) (by kernel_rfl) (by kernel_rfl) (fun _ _ _ h => h) (Or.inl ⟨by rfl, ?_⟩) (by assumption) ?_
        rotate_left 1
        · (intro w hSw; (try dsimp only at hSw); go_simp <;> (with_reducible rfl))
        (try simp only [Act.put, List.setIfInBounds_toArray, List.set_cons_zero, List.set_cons_succ])
        refine wpAnyH_take (i := 2) (oi := { dst := some 86, op := Op.indexAddr 22 (Operand.tmp 84) (Operand.tmp 85), type := 0, pos := "outright.go:143", after := #[{ on := 0, ground := Ground.data }, { on := 1, ground := Ground.data }], guard := none }) (v := ?_) rfl (by kernel_rfl) (by kernel_rfl) (by kernel_rfl) (fun _ _ _ h => h) (Or.inl ⟨by rfl, ?_⟩) (by assumption) ?_
        rotate_left 1
        · (intro w hSw; (try dsimp only at hSw); go_simp <;> (with_reducible rfl))
        (try simp only [Act.put, List.setIfInBounds_toArray, List.set_cons_zero, List.set_cons_succ])
        refine wpAnyH_take (i := 3) (oi := { dst := some 87, op := Op.fieldAddr 34 (Operand.tmp 86) 0, type := 0, pos := "outright.go:143", after := #[{ on := 2, ground := Ground.data }], guard := none }) (v := ?_) rfl (by kernel_rfl) (by kernel_rfl) (by kernel_rfl) (fun _ _ _ h => h) (Or.inl ⟨by rfl, ?_⟩) (by assumption) ?_
        rotate_left 1
        · (intro w hSw; (try dsimp only at hSw); go_simp <;> (with_reducible rfl))
        (try simp only [Act.put, List.setIfInBounds_toArray, List.set_cons_zero, List.set_cons_succ])
        refine wpAnyH_take (i := 4) (oi := { dst := some 88, op := Op.load 3 (Operand.tmp 87), type := 3, pos := "outright.go:143", after := #[{ on := 3, ground := Ground.data }], guard := none }) (v := ?_) rfl (by kernel_rfl) (by kernel_rfl) (by kernel_rfl) (fun _ _ _ h => h) (Or.inl ⟨by rfl, ?_⟩) (by assumption) ?_
        rotate_left 1
        · (intro w hSw; (try dsimp only at hSw); go_simp <;> (with_reducible rfl))
        (try simp only [Act.put, List.setIfInBounds_toArray, List.set_cons_zero, List.set_cons_succ])
        refine wpAnyH_take (i := 5) (oi := { dst := some 89, op := Op.move (Operand.tmp 6), type := 22, pos := "outright.go:143", after := #[], guard := none }) (v := ?_) rfl (by kernel_rfl) (by kernel_rfl) (by kernel_rfl) (fun _ _ _ h => h) (Or.inl ⟨by rfl, ?_⟩) (by assumption) ?_
        rotate_left 1
        · (intro w hSw; (try dsimp only at hSw); go_simp <;> (with_reducible rfl))
        (try simp only [Act.put, List.setIfInBounds_toArray, List.set_cons_zero, List.set_cons_succ])
        refine wpAnyH_take (i := 6) (oi := { dst := some 90, op := Op.move (Operand.tmp 12), type := 3, pos := "outright.go:143", after := #[], guard := none }) (v := ?_) rfl (by kernel_rfl) (by kernel_rfl) (by kernel_rfl) (fun _ _ _ h => h) (Or.inl ⟨by rfl, ?_⟩) (by assumption) ?_
        rotate_left 1
        · (intro w hSw; (try dsimp only at hSw); go_simp <;> (with_reducible rfl))
        (try simp only [Act.put, List.setIfInBounds_toArray, List.set_cons_zero, List.set_cons_succ])
        refine wpAnyH_take (i := 7) (oi := { dst := some 91, op := Op.binOp BinOp.sub 3 (Operand.tmp 90) (Operand.const (Value.int IntKind.i64 1)) 3, type := 3, pos := "outright.go:143", after := #[{ on := 6, ground := Ground.data }], guard := none }) (v := ?_) rfl (by kernel_rfl) (by kernel_rfl) (by kernel_rfl) (fun _ _ _ h => h) (Or.inl ⟨by rfl, ?_⟩) (by assumption) ?_
        rotate_left 1
        · (intro w hSw; (try dsimp only at hSw); go_simp <;> (with_reducible rfl))
        (try simp only [Act.put, List.setIfInBounds_toArray, List.set_cons_zero, List.set_cons_succ])
        refine wpAnyH_take (i := 8) (oi := { dst := some 92, op := Op.indexAddr 22 (Operand.tmp 89) (Operand.tmp 91), type := 0, pos := "outright.go:143", after := #[{ on := 5, ground := Ground.data }, { on := 7, ground := Ground.data }], guard := none }) (v := ?_) rfl (by kernel_rfl) (by kernel_rfl) (by kernel_rfl) (fun _ _ _ h => h) (Or.inl ⟨by rfl, ?_⟩) (by assumption) ?_
        rotate_left 1
        · (intro w hSw; (try dsimp only at hSw); go_simp <;> (with_reducible rfl))
        (try simp only [Act.put, List.setIfInBounds_toArray, List.set_cons_zero, List.set_cons_succ])
        refine wpAnyH_take (i := 9) (oi := { dst := some 93, op := Op.fieldAddr 34 (Operand.tmp 92) 1, type := 0, pos := "outright.go:143", after := #[{ on := 8, ground := Ground.data }], guard := none }) (v := ?_) rfl (by kernel_rfl) (by kernel_rfl) (by kernel_rfl) (fun _ _ _ h => h) (Or.inl ⟨by rfl, ?_⟩) (by assumption) ?_
        rotate_left 1
        · (intro w hSw; (try dsimp only at hSw); go_simp <;> (with_reducible rfl))
        (try simp only [Act.put, List.setIfInBounds_toArray, List.set_cons_zero, List.set_cons_succ])
        refine wpAnyH_take (i := 10) (oi := { dst := some 94, op := Op.load 3 (Operand.tmp 93), type := 3, pos := "outright.go:143", after := #[{ on := 9, ground := Ground.data }], guard := none }) (v := ?_) rfl (by kernel_rfl) (by kernel_rfl) (by kernel_rfl) (fun _ _ _ h => h) (Or.inl ⟨by rfl, ?_⟩) (by assumption) ?_
        rotate_left 1
        · (intro w hSw; (try dsimp only at hSw); go_simp <;> (with_reducible rfl))
        (try simp only [Act.put, List.setIfInBounds_toArray, List.set_cons_zero, List.set_cons_succ])
        refine wpAnyH_take (i := 11) (oi := { dst := some 95, op := Op.binOp BinOp.sub 3 (Operand.tmp 88) (Operand.tmp 94) 3, type := 3, pos := "outright.go:143", after := #[{ on := 4, ground := Ground.data }, { on := 10, ground := Ground.data }], guard := none }) (v := ?_) rfl (by kernel_rfl) (by kernel_rfl) (by kernel_rfl) (fun _ _ _ h => h) (Or.inl ⟨by rfl, ?_⟩) (by assumption) ?_
        rotate_left 1
        · (intro w hSw; (try dsimp only at hSw); go_simp <;> (with_reducible rfl))
        (try simp only [Act.put, List.setIfInBounds_toArray, List.set_cons_zero, List.set_cons_succ])
        refine wpAnyH_take (i := 12) (oi := { dst := some 96, op := Op.move (Operand.tmp 1), type := 3, pos := "outright.go:143", after := #[], guard := none }) (v := ?_) rfl (by kernel_rfl) (by kernel_rfl) (by kernel_rfl) (fun _ _ _ h => h) (Or.inl ⟨by rfl, ?_⟩) (by assumption) ?_
        rotate_left 1
        · (intro w hSw; (try dsimp only at hSw); go_simp <;> (with_reducible rfl))
        (try simp only [Act.put, List.setIfInBounds_toArray, List.set_cons_zero, List.set_cons_succ])
        refine wpAnyH_take (i := 13) (oi := { dst := some 97, op := Op.binOp BinOp.leq 3 (Operand.tmp 95) (Operand.tmp 96) 3, type := 4, pos := "outright.go:143", after := #[{ on := 11, ground := Ground.data }, { on := 12, ground := Ground.data }], guard := none }) (v := ?_) rfl (by kernel_rfl) (by kernel_rfl) (by kernel_rfl) (fun _ _ _ h => h) (Or.inl ⟨by rfl, ?_⟩) (by assumption) ?_
        rotate_left 1
        · (intro w hSw; (try dsimp only at hSw); go_simp <;> (with_reducible rfl))
        (try simp only [Act.put, List.setIfInBounds_toArray, List.set_cons_zero, List.set_cons_succ])
        refine wpAnyH_done (by kernel_rfl) ?_ _
        refine NoPanic.normal ?_
        clear hR0
        clear q1 q2 q3 q4 q5 q6 c1 c2
        go_wp2
        go_roundw
        case rel => exact ⟨k + 1, by omega, by omega, by go_num, HD.out⟩
        case measure => simp [intOf]; omega
      · replace HB := Lib.hid (HB.out.trans (hbw.mono HB.out.size))
        replace Hl := Lib.hid (Hl.out.below hbw (Nat.le_refl _))
        replace Hb := Lib.hid (Hb.out.below hbw (Nat.le_refl _))
        replace Hr := Lib.hid (Hr.out.below hbw (Nat.le_refl _))
        have hge : ¬ (k : Int) < (lb.length : Int) := by omega
        clear hbw hlt
        go_wp2_with fail
        go_loopw [100] (fun i wx => ∃ j : Nat, j ≤ lr.length ∧ i = .int .i64 j ∧ Below wr.heap.size wr wx) (fun i _ => lr.length - (intOf i).toNat)
        case atStart => exact ⟨0, Nat.zero_le _, rfl, Below.refl _ _⟩
        case round =>
          obtain ⟨j, hj, rfl, hbw⟩ := hrel
          by_cases hlt : j < lr.length
          · obtain ⟨bb, ob, rfl, hbb, hc⟩ := Hr.out.block (by intro e; rw [e] at hlt; simp at hlt)
            have c1 := (hbw.cell (p := ⟨bb, ob + j * 2, none⟩) hbb).trans (hc j hlt).1
            have c2 := (hbw.cell (p := ⟨bb, ob + j * 2 + 1, none⟩) hbb).trans (hc j hlt).2
            obtain ⟨s1, s2, s3⟩ := HG.out.g6 j hlt
            have hx := HSr.out.get hlt
            rw [← getD_eq hlt] at hx
            obtain ⟨x, ex⟩ : ∃ x, x = (lr[j]?.getD (0, 0)).1 := ⟨_, rfl⟩
            obtain ⟨y, ey⟩ : ∃ y, y = (lr[j]?.getD (0, 0)).2 := ⟨_, rfl⟩
            rw [← ex] at c1 s1 s2 hx
            rw [← ey] at c2 s1 s3 hx
            obtain ⟨x1, x2, x3⟩ := hx
            have S2 := Lib.hid s2
            have S3 := Lib.hid s3
            clear ex ey hc s2 s3
            have t1 : ¬ days < y - x := by omega
            have hba := (Below.refl wr.heap.size wr).alloc (Nat.le_refl _) (.cells #[.int .i64 x, .int .i64 y] 34)
            have HX := Lib.hid (Bx.new 34 wr (.int .i64 x) (.int .i64 y))
            have HD := Lib.hid (hbw.alloc hbw.size (.cells #[.int .i64 x, .int .i64 y] 34))
            have HLx := Lib.hid ((Hl.out.below hbw (Nat.le_refl _)).below hba (Nat.le_refl _))
            clear hba hbw
            go_wp2_with fail
            obtain ⟨W, hW⟩ : ∃ W, wr.alloc (.cells #[.int .i64 x, .int .i64 y] 34) = W := ⟨_, rfl⟩
            rw [hW] at HX HD HLx ⊢
            clear hW
            obtain ⟨y1, y2⟩ := HX.out.cells
            refine (in_is S2.out HLx.out).mono ?_
            rintro e w' ⟨rfl, rfl⟩
            go_wp2_with fail
            refine (in_is S3.out HLx.out).mono ?_
            rintro e w' ⟨rfl, rfl⟩
            go_wp2
            go_roundw
            case rel => exact ⟨j + 1, by omega, by go_num, HD.out⟩
            case measure => simp [intOf]; omega
          · replace HB := Lib.hid (HB.out.trans (hbw.mono HB.out.size))
            replace Hl := Lib.hid (Hl.out.below hbw (Nat.le_refl _))
            replace Hb := Lib.hid (Hb.out.below hbw (Nat.le_refl _))
            clear hbw
            cases r0 with
            | true =>
              go_wp2_with fail
              refine wp_region_noPanic ?_
              refine wp_region_held_drew (S := (fun _ => True)) (by kernel_rfl) trivial (fun hR0 => ?_)
              change wpAnyH _ _ _ _ _ 32 #[false, false, false, false, false, false, false, false, false, false, false, false, false, false, false, false, false, false, false, false, false, false, false, false, false, false, false, false, false, false, false, false] _ _
              refine wpAnyH_take (i := 0) (oi := { dst := some 127, op := Op.move (Operand.tmp 5), type := 22, pos := "outright.go:152", after := #[], guard := none }) (v := ?_) rfl (by kernel_rfl) (by kernel_rfl) (by kernel_rfl) (fun _ _ _ h => h) (Or.inl ⟨by rfl, ?_⟩) (by assumption) ?_
              rotate_left 1
              · (intro w hSw; (try dsimp only at hSw); go_simp <;> (with_reducible rfl))
              (try simp only [Act.put, List.setIfInBounds_toArray, List.set_cons_zero, List.set_cons_succ])
              refine wpAnyH_take (i := 1) (oi := { dst := some 128, op := Op.call { callee := Callee.builtin Builtin.len, args := #[Operand.tmp 127], argTypes := #[22] }, type := 3, pos := "outright.go:152", after := #[{ on := 0, ground := Ground.data }], guard := none }) (v := ?_) rfl (by kernel_rfl) (by kernel_rfl) (by kernel_rfl) (fun _ _ _ h => h) (Or.inl ⟨by rfl, ?_⟩) (by assumption) ?_
              rotate_left 1
              · (intro w hSw; (try dsimp only at hSw); go_simp <;> (with_reducible rfl))
              (try simp only [Act.put, List.setIfInBounds_toArray, List.set_cons_zero, List.set_cons_succ])
              refine wpAnyH_take (i := 2) (oi := { dst := some 129, op := Op.binOp BinOp.eql 3 (Operand.tmp 128) (Operand.const (Value.int IntKind.i64 0)) 3, type := 4, pos := "outright.go:152", after := #[{ on := 1, ground := Ground.data }], guard := none }) (v := ?_) rfl (by kernel_rfl) (by kernel_rfl) (by kernel_rfl) (fun _ _ _ h => h) (Or.inl ⟨by rfl, ?_⟩) (by assumption) ?_
              rotate_left 1
              · (intro w hSw; (try dsimp only at hSw); go_simp <;> (with_reducible rfl))
              (try simp only [Act.put, List.setIfInBounds_toArray, List.set_cons_zero, List.set_cons_succ])
              refine wpAnyH_take (i := 3) (oi := { dst := some 130, op := Op.move (Operand.tmp 129), type := 4, pos := "outright.go:152", after := #[{ on := 2, ground := Ground.data }], guard := none }) (v := ?_) rfl (by kernel_rfl) (by kernel_rfl) (by kernel_rfl) (fun _ _ _ h => h) (Or.inl ⟨by rfl, ?_⟩) (by assumption) ?_
              rotate_left 1
              · (intro w hSw; (try dsimp only at hSw); go_simp <;> (with_reducible rfl))
              (try simp only [Act.put, List.setIfInBounds_toArray, List.set_cons_zero, List.set_cons_succ])
              refine wpAnyH_take (i := 4) (oi := { dst := some 131, op := Op.move (Operand.tmp 6), type := 22, pos := "outright.go:152", after := #[{ on := 3, ground := Ground.guard }], guard := some (3, false) }) (v := undef) rfl (by kernel_rfl) (by kernel_rfl) (by kernel_rfl) (fun _ _ _ h => h) (Or.inr ⟨by rfl, rfl⟩) (by assumption) ?_
              (try simp only [Act.put, List.setIfInBounds_toArray, List.set_cons_zero, List.set_cons_succ])
              refine wpAnyH_take (i := 5) (oi := { dst := some 132, op := Op.indexAddr 22 (Operand.tmp 131) (Operand.const (Value.int IntKind.i64 0)), type := 0, pos := "outright.go:152", after := #[{ on := 4, ground := Ground.data }, { on := 3, ground := Ground.guard }], guard := some (3, false) }) (v := undef) rfl (by kernel_rfl) (by kernel_rfl) (by kernel_rfl) (fun _ _ _ h => h) (Or.inr ⟨by rfl, rfl⟩) (by assumption) ?_
              (try simp only [Act.put, List.setIfInBounds_toArray, List.set_cons_zero, List.set_cons_succ])
              refine wpAnyH_take (i := 6) (oi := { dst := some 133, op := Op.fieldAddr 34 (Operand.tmp 132) 0, type := 0, pos := "outright.go:152", after := #[{ on := 5, ground := Ground.data }, { on := 3, ground := Ground.guard }], guard := some (3, false) }) (v := undef) rfl (by kernel_rfl) (by kernel_rfl) (by kernel_rfl) (fun _ _ _ h => h) (Or.inr ⟨by rfl, rfl⟩) (by assumption) ?_
              (try simp only [Act.put, List.setIfInBounds_toArray, List.set_cons_zero, List.set_cons_succ])
              refine wpAnyH_take (i := 7) (oi := { dst := some 134, op := Op.load 3 (Operand.tmp 133), type := 3, pos := "outright.go:152", after := #[{ on := 6, ground := Ground.data }, { on := 3, ground := Ground.guard }], guard := some (3, false) }) (v := undef) rfl (by kernel_rfl) (by kernel_rfl) (by kernel_rfl) (fun _ _ _ h => h) (Or.inr ⟨by rfl, rfl⟩) (by assumption) ?_
              (try simp only [Act.put, List.setIfInBounds_toArray, List.set_cons_zero, List.set_cons_succ])
              refine wpAnyH_take (i := 8) (oi := { dst := some 135, op := Op.move (Operand.tmp 5), type := 22, pos := "outright.go:152", after := #[{ on := 3, ground := Ground.guard }], guard := some (3, false) }) (v := undef) rfl (by kernel_rfl) (by kernel_rfl) (by kernel_rfl) (fun _ _ _ h => h) (Or.inr ⟨by rfl, rfl⟩) (by assumption) ?_
              (try simp only [Act.put, List.setIfInBounds_toArray, List.set_cons_zero, List.set_cons_succ])
              refine wpAnyH_take (i := 9) (oi := { dst := some 136, op := Op.indexAddr 22 (Operand.tmp 135) (Operand.const (Value.int IntKind.i64 0)), type := 0, pos := "outright.go:152", after := #[{ on := 8, ground := Ground.data }, { on := 3, ground := Ground.guard }], guard := some (3, false) }) (v := undef) rfl (by kernel_rfl) (by kernel_rfl) (by kernel_rfl) (fun _ _ _ h => h) (Or.inr ⟨by rfl, rfl⟩) (by assumption) ?_
              (try simp only [Act.put, List.setIfInBounds_toArray, List.set_cons_zero, List.set_cons_succ])
              refine wpAnyH_take (i := 10) (oi := { dst := some 137, op := Op.fieldAddr 34 (Operand.tmp 136) 0, type := 0, pos := "outright.go:152", after := #[{ on := 9, ground := Ground.data }, { on := 3, ground := Ground.guard }], guard := some (3, false) }) (v := undef) rfl (by kernel_rfl) (by kernel_rfl) (by kernel_rfl) (fun _ _ _ h => h) (Or.inr ⟨by rfl, rfl⟩) (by assumption) ?_
              (try simp only [Act.put, List.setIfInBounds_toArray, List.set_cons_zero, List.set_cons_succ])
              refine wpAnyH_take (i := 11) (oi := { dst := some 138, op := Op.load 3 (Operand.tmp 137), type := 3, pos := "outright.go:152", after := #[{ on := 10, ground := Ground.data }, { on := 3, ground := Ground.guard }], guard := some (3, false) }) (v := undef) rfl (by kernel_rfl) (by kernel_rfl) (by kernel_rfl) (fun _ _ _ h => h) (Or.inr ⟨by rfl, rfl⟩) (by assumption) ?_
              (try simp only [Act.put, List.setIfInBounds_toArray, List.set_cons_zero, List.set_cons_succ])
              refine wpAnyH_take (i := 12) (oi := { dst := some 139, op := Op.binOp BinOp.eql 3 (Operand.tmp 134) (Operand.tmp 138) 3, type := 4, pos := "outright.go:152", after := #[{ on := 7, ground := Ground.data }, { on := 11, ground := Ground.data }, { on := 3, ground := Ground.guard }], guard := some (3, false) }) (v := undef) rfl (by kernel_rfl) (by kernel_rfl) (by kernel_rfl) (fun _ _ _ h => h) (Or.inr ⟨by rfl, rfl⟩) (by assumption) ?_
              (try simp only [Act.put, List.setIfInBounds_toArray, List.set_cons_zero, List.set_cons_succ])
              refine wpAnyH_take (i := 13) (oi := { dst := some 140, op := Op.move (Operand.tmp 139), type := 4, pos := "outright.go:152", after := #[{ on := 12, ground := Ground.data }, { on := 3, ground := Ground.chain }, { on := 3, ground := Ground.guard }], guard := some (3, false) }) (v := undef) rfl (by kernel_rfl) (by kernel_rfl) (by kernel_rfl) (fun _ _ _ h => h) (Or.inr ⟨by rfl, rfl⟩) (by assumption) ?_
              (try simp only [Act.put, List.setIfInBounds_toArray, List.set_cons_zero, List.set_cons_succ])
              refine wpAnyH_take (i := 14) (oi := { dst := some 141, op := Op.move (Operand.tmp 6), type := 22, pos := "outright.go:152", after := #[{ on := 13, ground := Ground.guard }], guard := some (13, true) }) (v := undef) rfl (by kernel_rfl) (by kernel_rfl) (by kernel_rfl) (fun _ _ _ h => h) (Or.inr ⟨by rfl, rfl⟩) (by assumption) ?_
              (try simp only [Act.put, List.setIfInBounds_toArray, List.set_cons_zero, List.set_cons_succ])
              refine wpAnyH_take (i := 15) (oi := { dst := some 142, op := Op.move (Operand.tmp 6), type := 22, pos := "outright.go:152", after := #[{ on := 13, ground := Ground.guard }], guard := some (13, true) }) (v := undef) rfl (by kernel_rfl) (by kernel_rfl) (by kernel_rfl) (fun _ _ _ h => h) (Or.inr ⟨by rfl, rfl⟩) (by assumption) ?_
              (try simp only [Act.put, List.setIfInBounds_toArray, List.set_cons_zero, List.set_cons_succ])
              refine wpAnyH_take (i := 16) (oi := { dst := some 143, op := Op.call { callee := Callee.builtin Builtin.len, args := #[Operand.tmp 142], argTypes := #[22] }, type := 3, pos := "outright.go:152", after := #[{ on := 15, ground := Ground.data }, { on := 13, ground := Ground.guard }], guard := some (13, true) }) (v := undef) rfl (by kernel_rfl) (by kernel_rfl) (by kernel_rfl) (fun _ _ _ h => h) (Or.inr ⟨by rfl, rfl⟩) (by assumption) ?_
              (try simp only [Act.put, List.setIfInBounds_toArray, List.set_cons_zero, List.set_cons_succ])
              refine wpAnyH_take (i := 17) (oi := { dst := some 144, op := Op.binOp BinOp.sub 3 (Operand.tmp 143) (Operand.const (Value.int IntKind.i64 1)) 3, type := 3, pos := "outright.go:152", after := #[{ on := 16, ground := Ground.data }, { on := 13, ground := Ground.guard }], guard := some (13, true) }) (v := undef) rfl (by kernel_rfl) (by kernel_rfl) (by kernel_rfl) (fun _ _ _ h => h) (Or.inr ⟨by rfl, rfl⟩) (by assumption) ?_
              (try simp only [Act.put, List.setIfInBounds_toArray, List.set_cons_zero, List.set_cons_succ])
              refine wpAnyH_take (i := 18) (oi := { dst := some 145, op := Op.indexAddr 22 (Operand.tmp 141) (Operand.tmp 144), type := 0, pos := "outright.go:152", after := #[{ on := 14, ground := Ground.data }, { on := 17, ground := Ground.data }, { on := 13, ground := Ground.guard }], guard := some (13, true) }) (v := undef) rfl (by kernel_rfl) (by kernel_rfl) (by kernel_rfl) (fun _ _ _ h => h) (Or.inr ⟨by rfl, rfl⟩) (by assumption) ?_
              (try simp only [Act.put, List.setIfInBounds_toArray, List.set_cons_zero, List.set_cons_succ])
              refine wpAnyH_take (i := 19) (oi := { dst := some 146, op := Op.fieldAddr 34 (Operand.tmp 145) 1, type := 0, pos := "outright.go:152", after := #[{ on := 18, ground := Ground.data }, { on := 13, ground := Ground.guard }], guard := some (13, true) }) (v := undef) rfl (by kernel_rfl) (by kernel_rfl) (by kernel_rfl) (fun _ _ _ h => h) (Or.inr ⟨by rfl, rfl⟩) (by assumption) ?_
              (try simp only [Act.put, List.setIfInBounds_toArray, List.set_cons_zero, List.set_cons_succ])
              refine wpAnyH_take (i := 20) (oi := { dst := some 147, op := Op.load 3 (Operand.tmp 146), type := 3, pos := "outright.go:152", after := #[{ on := 19, ground := Ground.data }, { on := 13, ground := Ground.guard }], guard := some (13, true) }) (v := undef) rfl (by kernel_rfl) (by kernel_rfl) (by kernel_rfl) (fun _ _ _ h => h) (Or.inr ⟨by rfl, rfl⟩) (by assumption) ?_
              (try simp only [Act.put, List.setIfInBounds_toArray, List.set_cons_zero, List.set_cons_succ])
              refine wpAnyH_take (i := 21) (oi := { dst := some 148, op := Op.move (Operand.tmp 5), type := 22, pos := "outright.go:152", after := #[{ on := 13, ground := Ground.guard }], guard := some (13, true) }) (v := undef) rfl (by kernel_rfl) (by kernel_rfl) (by kernel_rfl) (fun _ _ _ h => h) (Or.inr ⟨by rfl, rfl⟩) (by assumption) ?_
              (try simp only [Act.put, List.setIfInBounds_toArray, List.set_cons_zero, List.set_cons_succ])
              refine wpAnyH_take (i := 22) (oi := { dst := some 149, op := Op.move (Operand.tmp 5), type := 22, pos := "outright.go:152", after := #[{ on := 13, ground := Ground.guard }], guard := some (13, true) }) (v := undef) rfl (by kernel_rfl) (by kernel_rfl) (by kernel_rfl) (fun _ _ _ h => h) (Or.inr ⟨by rfl, rfl⟩) (by assumption) ?_
              (try simp only [Act.put, List.setIfInBounds_toArray, List.set_cons_zero, List.set_cons_succ])
              refine wpAnyH_take (i := 23) (oi := { dst := some 150, op := Op.call { callee := Callee.builtin Builtin.len, args := #[Operand.tmp 149], argTypes := #[22] }, type := 3, pos := "outright.go:152", after := #[{ on := 22, ground := Ground.data }, { on := 13, ground := Ground.guard }], guard := some (13, true) }) (v := undef) rfl (by kernel_rfl) (by kernel_rfl) (by kernel_rfl) (fun _ _ _ h => h) (Or.inr ⟨by rfl, rfl⟩) (by assumption) ?_
              (try simp only [Act.put, List.setIfInBounds_toArray, List.set_cons_zero, List.set_cons_succ])
              refine wpAnyH_take (i := 24) (oi := { dst := some 151, op := Op.binOp BinOp.sub 3 (Operand.tmp 150) (Operand.const (Value.int IntKind.i64 1)) 3, type := 3, pos := "outright.go:152", after := #[{ on := 23, ground := Ground.data }, { on := 13, ground := Ground.guard }], guard := some (13, true) }) (v := undef) rfl (by kernel_rfl) (by kernel_rfl) (by kernel_rfl) (fun _ _ _ h => h) (Or.inr ⟨by rfl, rfl⟩) (by assumption) ?_
              (try simp only [Act.put, List.setIfInBounds_toArray, List.set_cons_zero, List.set_cons_succ])
              refine wpAnyH_take (i := 25) (oi := { dst := some 152, op := Op.indexAddr 22 (Operand.tmp 148) (Operand.tmp 151), type := 0, pos := "outright.go:152", after := #[{ on := 21, ground := Ground.data }, { on := 24, ground := Ground.data }, { on := 13, ground := Ground.guard }], guard := some (13, true) }) (v := undef) rfl (by kernel_rfl) (by kernel_rfl) (by kernel_rfl) (fun _ _ _ h => h) (Or.inr ⟨by rfl, rfl⟩) (by assumption) ?_
              (try simp only [Act.put, List.setIfInBounds_toArray, List.set_cons_zero, List.set_cons_succ])
              refine wpAnyH_take (i := 26) (oi := { dst := some 153, op := Op.fieldAddr 34 (Operand.tmp 152) 1, type := 0, pos := "outright.go:152", after := #[{ on := 25, ground := Ground.data }, { on := 13, ground := Ground.guard }], guard := some (13, true) }) (v := undef) rfl (by kernel_rfl) (by kernel_rfl) (by kernel_rfl) (fun _ _ _ h => h) (Or.inr ⟨by rfl, rfl⟩) (by assumption) ?_
              (try simp only [Act.put, List.setIfInBounds_toArray, List.set_cons_zero, List.set_cons_succ])
              refine wpAnyH_take (i := 27) (oi := { dst := some 154, op := Op.load 3 (Operand.tmp 153), type := 3, pos := "outright.go:152", after := #[{ on := 26, ground := Ground.data }, { on := 13, ground := Ground.guard }], guard := some (13, true) }) (v := undef) rfl (by kernel_rfl) (by kernel_rfl) (by kernel_rfl) (fun _ _ _ h => h) (Or.inr ⟨by rfl, rfl⟩) (by assumption) ?_
              (try simp only [Act.put, List.setIfInBounds_toArray, List.set_cons_zero, List.set_cons_succ])
              refine wpAnyH_take (i := 28) (oi := { dst := some 155, op := Op.binOp BinOp.eql 3 (Operand.tmp 147) (Operand.tmp 154) 3, type := 4, pos := "outright.go:152", after := #[{ on := 20, ground := Ground.data }, { on := 27, ground := Ground.data }, { on := 13, ground := Ground.guard }], guard := some (13, true) }) (v := undef) rfl (by kernel_rfl) (by kernel_rfl) (by kernel_rfl) (fun _ _ _ h => h) (Or.inr ⟨by rfl, rfl⟩) (by assumption) ?_
              (try simp only [Act.put, List.setIfInBounds_toArray, List.set_cons_zero, List.set_cons_succ])
              refine wpAnyH_take (i := 29) (oi := { dst := some 156, op := Op.pick (Operand.tmp 140) (Operand.tmp 155) (Operand.const (Value.bool false)), type := 4, pos := "outright.go:152", after := #[{ on := 13, ground := Ground.data }, { on := 28, ground := Ground.data }, { on := 3, ground := Ground.guard }], guard := some (3, false) }) (v := undef) rfl (by kernel_rfl) (by kernel_rfl) (by kernel_rfl) (fun _ _ _ h => h) (Or.inr ⟨by rfl, rfl⟩) (by assumption) ?_
              (try simp only [Act.put, List.setIfInBounds_toArray, List.set_cons_zero, List.set_cons_succ])
              refine wpAnyH_take (i := 30) (oi := { dst := some 157, op := Op.pick (Operand.tmp 130) (Operand.const (Value.bool true)) (Operand.tmp 156), type := 4, pos := "outright.go:152", after := #[{ on := 3, ground := Ground.data }, { on := 29, ground := Ground.data }], guard := none }) (v := ?_) rfl (by kernel_rfl) (by kernel_rfl) (by kernel_rfl) (fun _ _ _ h => h) (Or.inl ⟨by rfl, ?_⟩) (by assumption) ?_
              rotate_left 1
              · (intro w hSw; (try dsimp only at hSw); go_simp <;> (with_reducible rfl))
              (try simp only [Act.put, List.setIfInBounds_toArray, List.set_cons_zero, List.set_cons_succ])
              refine wpAnyH_take (i := 31) (oi := { dst := some 4, op := Op.assign (Operand.tmp 157), type := 4, pos := "outright.go:152", after := #[{ on := 30, ground := Ground.data }, { on := 13, ground := Ground.chain }, { on := 0, ground := Ground.phase }, { on := 1, ground := Ground.phase }, { on := 2, ground := Ground.phase }, { on := 3, ground := Ground.phase }, { on := 4, ground := Ground.phase }, { on := 5, ground := Ground.phase }, { on := 6, ground := Ground.phase }, { on := 7, ground := Ground.phase }, { on := 8, ground := Ground.phase }, { on := 9, ground := Ground.phase }, { on := 10, ground := Ground.phase }, { on := 11, ground := Ground.phase }, { on := 12, ground := Ground.phase }, { on := 13, ground := Ground.phase }, { on := 14, ground := Ground.phase }, { on := 15, ground := Ground.phase }, { on := 16, ground := Ground.phase }, { on := 17, ground := Ground.phase }, { on := 18, ground := Ground.phase }, { on := 19, ground := Ground.phase }, { on := 20, ground := Ground.phase }, { on := 21, ground := Ground.phase }, { on := 22, ground := Ground.phase }, { on := 23, ground := Ground.phase }, { on := 24, ground := Ground.phase }, { on := 25, ground := Ground.phase }, { on := 26, ground := Ground.phase }, { on := 27, ground := Ground.phase }, { on := 28, ground := Ground.phase }, { on := 29, ground := Ground.phase }, { on := 30, ground := Ground.phase }], guard := none }) (v := ?_) rfl (by kernel_rfl) (by kernel_rfl) (by kernel_rfl) (fun _ _ _ h => h) (Or.inl ⟨by rfl, ?_⟩) (by assumption) ?_
              rotate_left 1
              · (intro w hSw; (try dsimp only at hSw); go_simp <;> (with_reducible rfl))
              (try simp only [Act.put, List.setIfInBounds_toArray, List.set_cons_zero, List.set_cons_succ])
              refine wpAnyH_done (by kernel_rfl) ?_ _
              refine NoPanic.normal ?_
              clear hR0
              have HE := Lib.hid HB.out.drew
              go_wp2
              go_ret
              exact ⟨rfl, HE.out⟩
            | false =>
              have l1 : ll ≠ [] := by intro e; rw [e] at hr0; simp at hr0
              have l2 : lb ≠ [] := by intro e; rw [e] at hr1; simp at hr1
              have p1 : 0 < ll.length := List.length_pos_iff.2 l1
              have p2 : 0 < lb.length := List.length_pos_iff.2 l2
              obtain ⟨f1, f2⟩ := HG.out.g7 l1
              obtain ⟨bl, ol, rfl, -, hc⟩ := Hl.out.block l1
              obtain ⟨bb, ob, rfl, -, hc2⟩ := Hb.out.block l2
              have c1 := (hc 0 p1).1
              have c2 := (hc (ll.length - 1) (by omega)).2
              have c3 := (hc2 0 p2).1
              have c4 := (hc2 (lb.length - 1) (by omega)).2
              rw [f1] at c3
              rw [f2] at c4
              simp only [Nat.zero_mul, Nat.add_zero] at c1 c3
              obtain ⟨x, ex⟩ : ∃ x, x = (ll[0]?.getD (0, 0)).1 := ⟨_, rfl⟩
              obtain ⟨y, ey⟩ : ∃ y, y = (ll[ll.length - 1]?.getD (0, 0)).2 := ⟨_, rfl⟩
              rw [← ex] at c1 c3
              rw [← ey] at c2 c4
              clear ex ey hc hc2 f1 f2 l1 l2
              have q1 : IntKind.i64.wrap ((ll.length : Int) - 1) = (ll.length : Int) - 1 := IntWalk.i64_in _ (by omega)
              have q2 : (1 : Int) ≤ (ll.length : Int) := by omega
              have q3 : ((ll.length : Int) - 1).toNat = ll.length - 1 := by omega
              have q4 : ll.length - 1 < ll.length := by omega
              have q11 : IntKind.i64.wrap ((lb.length : Int) - 1) = (lb.length : Int) - 1 := IntWalk.i64_in _ (by omega)
              have q12 : (1 : Int) ≤ (lb.length : Int) := by omega
              have q13 : ((lb.length : Int) - 1).toNat = lb.length - 1 := by omega
              have q14 : lb.length - 1 < lb.length := by omega
              have q5 : (ll.length : Int) - 1 < (ll.length : Int) := by omega
              have q15 : (lb.length : Int) - 1 < (lb.length : Int) := by omega
              have HE := Lib.hid HB.out.drew
              go_wp2_with fail
              refine wp_region_noPanic ?_
              refine wp_region_held_drew (S := (fun w' => w'.cell? ⟨bl, ol, none⟩ = some (.int .i64 x) ∧ w'.cell? ⟨bl, ol + (ll.length - 1) * 2 + 1, none⟩ = some (.int .i64 y) ∧ w'.cell? ⟨bb, ob, none⟩ = some (.int .i64 x) ∧ w'.cell? ⟨bb, ob + (lb.length - 1) * 2 + 1, none⟩ = some (.int .i64 y))) (by kernel_rfl) ⟨c1, c2, c3, c4⟩ (fun hR0 => ?_)
              change wpAnyH _ _ _ _ _ 32 #[false, false, false, false, false, false, false, false, false, false, false, false, false, false, false, false, false, false, false, false, false, false, false, false, false, false, false, false, false, false, false, false] _ _
              refine wpAnyH_take (i := 0) (oi := { dst := some 127, op := Op.move (Operand.tmp 5), type := 22, pos := "outright.go:152", after := #[], guard := none }) (v := ?_) rfl (by kernel_rfl) (by kernel_rfl) (by kernel_rfl) (fun _ _ _ h => h) (Or.inl ⟨by rfl, ?_⟩) (by assumption) ?_
              rotate_left 1
              · (intro w hSw; (try dsimp only at hSw); go_simp <;> (with_reducible rfl))
              (try simp only [Act.put, List.setIfInBounds_toArray, List.set_cons_zero, List.set_cons_succ])
              refine wpAnyH_take (i := 1) (oi := { dst := some 128, op := Op.call { callee := Callee.builtin Builtin.len, args := #[Operand.tmp 127], argTypes := #[22] }, type := 3, pos := "outright.go:152", after := #[{ on := 0, ground := Ground.data }], guard := none }) (v := ?_) rfl (by kernel_rfl) (by kernel_rfl) (by kernel_rfl) (fun _ _ _ h => h) (Or.inl ⟨by rfl, ?_⟩) (by assumption) ?_
              rotate_left 1
              · (intro w hSw; (try dsimp only at hSw); go_simp <;> (with_reducible rfl))
              (try simp only [Act.put, List.setIfInBounds_toArray, List.set_cons_zero, List.set_cons_succ])
              refine wpAnyH_take (i := 2) (oi := { dst := some 129, op := Op.binOp BinOp.eql 3 (Operand.tmp 128) (Operand.const (Value.int IntKind.i64 0)) 3, type := 4, pos := "outright.go:152", after := #[{ on := 1, ground := Ground.data }], guard := none }) (v := ?_) rfl (by kernel_rfl) (by kernel_rfl) (by kernel_rfl) (fun _ _ _ h => h) (Or.inl ⟨by rfl, ?_⟩) (by assumption) ?_
              rotate_left 1
              · (intro w hSw; (try dsimp only at hSw); go_simp <;> (with_reducible rfl))
              (try simp only [Act.put, List.setIfInBounds_toArray, List.set_cons_zero, List.set_cons_succ])
              refine wpAnyH_take (i := 3) (oi := { dst := some 130, op := Op.move (Operand.tmp 129), type := 4, pos := "outright.go:152", after := #[{ on := 2, ground := Ground.data }], guard := none }) (v := ?_) rfl (by kernel_rfl) (by kernel_rfl) (by kernel_rfl) (fun _ _ _ h => h) (Or.inl ⟨by rfl, ?_⟩) (by assumption) ?_
              rotate_left 1
              · (intro w hSw; (try dsimp only at hSw); go_simp <;> (with_reducible rfl))
              (try simp only [Act.put, List.setIfInBounds_toArray, List.set_cons_zero, List.set_cons_succ])
              refine wpAnyH_take (i := 4) (oi := { dst := some 131, op := Op.move (Operand.tmp 6), type := 22, pos := "outright.go:152", after := #[{ on := 3, ground := Ground.guard }], guard := some (3, false) }) (v := ?_) rfl (by kernel_rfl) (by kernel_rfl) (by kernel_rfl) (fun _ _ _ h => h) (Or.inl ⟨by rfl, ?_⟩) (by assumption) ?_
              rotate_left 1
              · (intro w hSw; (try dsimp only at hSw); go_simp <;> (with_reducible rfl))
              (try simp only [Act.put, List.setIfInBounds_toArray, List.set_cons_zero, List.set_cons_succ])
              refine wpAnyH_take (i := 5) (oi := { dst := some 132, op := Op.indexAddr 22 (Operand.tmp 131) (Operand.const (Value.int IntKind.i64 0)), type := 0, pos := "outright.go:152", after := #[{ on := 4, ground := Ground.data }, { on := 3, ground := Ground.guard }], guard := some (3, false) }) (v := ?_) rfl (by kernel_rfl) (by kernel_rfl) (by kernel_rfl) (fun _ _ _ h => h) (Or.inl ⟨by rfl, ?_⟩) (by assumption) ?_
              rotate_left 1
              · (intro w hSw; (try dsimp only at hSw); go_simp <;> (with_reducible rfl))
              (try simp only [Act.put, List.setIfInBounds_toArray, List.set_cons_zero, List.set_cons_succ])
              refine wpAnyH_take (i := 6) (oi := { dst := some 133, op := Op.fieldAddr 34 (Operand.tmp 132) 0, type := 0, pos := "outright.go:152", after := #[{ on := 5, ground := Ground.data }, { on := 3, ground := Ground.guard }], guard := some (3, false) }) (v := ?_) rfl (by kernel_rfl) (by kernel_rfl) (by kernel_rfl) (fun _ _ _ h => h) (Or.inl ⟨by rfl, ?_⟩) (by assumption) ?_
              rotate_left 1
              · (intro w hSw; (try dsimp only at hSw); go_simp <;> (with_reducible rfl))
              (try simp only [Act.put, List.setIfInBounds_toArray, List.set_cons_zero, List.set_cons_succ])
              refine wpAnyH_take (i := 7) (oi := { dst := some 134, op := Op.load 3 (Operand.tmp 133), type := 3, pos := "outright.go:152", after := #[{ on := 6, ground := Ground.data }, { on := 3, ground := Ground.guard }], guard := some (3, false) }) (v := ?_) rfl (by kernel_rfl) (by kernel_rfl) (by kernel_rfl) (fun _ _ _ h => h) (Or.inl ⟨by rfl, ?_⟩) (by assumption) ?_
              rotate_left 1
              · (intro w hSw; (try dsimp only at hSw); go_simp <;> (with_reducible rfl))
              (try simp only [Act.put, List.setIfInBounds_toArray, List.set_cons_zero, List.set_cons_succ])
              refine wpAnyH_take (i := 8) (oi := { dst := some 135, op := Op.move (Operand.tmp 5), type := 22, pos := "outright.go:152", after := #[{ on := 3, ground := Ground.guard }], guard := some (3, false) }) (v := ?_) rfl (by kernel_rfl) (by kernel_rfl) (by kernel_rfl) (fun _ _ _ h => h) (Or.inl ⟨by rfl, ?_⟩) (by assumption) ?_
              rotate_left 1
              · (intro w hSw; (try dsimp only at hSw); go_simp <;> (with_reducible rfl))
              (try simp only [Act.put, List.setIfInBounds_toArray, List.set_cons_zero, List.set_cons_succ])
              refine wpAnyH_take (i := 9) (oi := { dst := some 136, op := Op.indexAddr 22 (Operand.tmp 135) (Operand.const (Value.int IntKind.i64 0)), type := 0, pos := "outright.go:152", after := #[{ on := 8, ground := Ground.data }, { on := 3, ground := Ground.guard }], guard := some (3, false) }) (v := ?_) rfl (by kernel_rfl) (by kernel_rfl) (by kernel_rfl) (fun _ _ _ h => h) (Or.inl ⟨by rfl, ?_⟩) (by assumption) ?_
              rotate_left 1
              · (intro w hSw; (try dsimp only at hSw); go_simp <;> (with_reducible rfl))
              (try simp only [Act.put, List.setIfInBounds_toArray, List.set_cons_zero, List.set_cons_succ])
              refine wpAnyH_take (i := 10) (oi := { dst := some 137, op := Op.fieldAddr 34 (Operand.tmp 136) 0, type := 0, pos := "outright.go:152", after := #[{ on := 9, ground := Ground.data }, { on := 3, ground := Ground.guard }], guard := some (3, false) }) (v := ?_) rfl (by kernel_rfl) (by kernel_rfl) (by kernel_rfl) (fun _ _ _ h => h) (Or.inl ⟨by rfl, ?_⟩) (by assumption) ?_
              rotate_left 1
              · (intro w hSw; (try dsimp only at hSw); go_simp <;> (with_reducible rfl))
              (try simp only [Act.put, List.setIfInBounds_toArray, List.set_cons_zero, List.set_cons_succ])
              refine wpAnyH_take (i := 11) (oi := { dst := some 138, op := Op.load 3 (Operand.tmp 137), type := 3, pos := "outright.go:152", after := #[{ on := 10, ground := Ground.data }, { on := 3, ground := Ground.guard }], guard := some (3, false) }) (v := ?_) rfl (by kernel_rfl) (by kernel_rfl) (by kernel_rfl) (fun _ _ _ h => h) (Or.inl ⟨by rfl, ?_⟩) (by assumption) ?_
              rotate_left 1
              · (intro w hSw; (try dsimp only at hSw); go_simp <;> (with_reducible rfl))
              (try simp only [Act.put, List.setIfInBounds_toArray, List.set_cons_zero, List.set_cons_succ])
              refine wpAnyH_take (i := 12) (oi := { dst := some 139, op := Op.binOp BinOp.eql 3 (Operand.tmp 134) (Operand.tmp 138) 3, type := 4, pos := "outright.go:152", after := #[{ on := 7, ground := Ground.data }, { on := 11, ground := Ground.data }, { on := 3, ground := Ground.guard }], guard := some (3, false) }) (v := ?_) rfl (by kernel_rfl) (by kernel_rfl) (by kernel_rfl) (fun _ _ _ h => h) (Or.inl ⟨by rfl, ?_⟩) (by assumption) ?_
              rotate_left 1
              · (intro w hSw; (try dsimp only at hSw); go_simp <;> (with_reducible rfl))
              (try simp only [Act.put, List.setIfInBounds_toArray, List.set_cons_zero, List.set_cons_succ])
              refine wpAnyH_take (i := 13) (oi := { dst := some 140, op := Op.move (Operand.tmp 139), type := 4, pos := "outright.go:152", after := #[{ on := 12, ground := Ground.data }, { on := 3, ground := Ground.chain }, { on := 3, ground := Ground.guard }], guard := some (3, false) }) (v := ?_) rfl (by kernel_rfl) (by kernel_rfl) (by kernel_rfl) (fun _ _ _ h => h) (Or.inl ⟨by rfl, ?_⟩) (by assumption) ?_
              rotate_left 1
              · (intro w hSw; (try dsimp only at hSw); go_simp <;> (with_reducible rfl))
              (try simp only [Act.put, List.setIfInBounds_toArray, List.set_cons_zero, List.set_cons_succ])
              refine wpAnyH_take (i := 14) (oi := { dst := some 141, op := Op.move (Operand.tmp 6), type := 22, pos := "outright.go:152", after := #[{ on := 13, ground := Ground.guard }], guard := some (13, true) }) (v := ?_) rfl (by kernel_rfl) (by kernel_rfl) (by kernel_rfl) (fun _ _ _ h => h) (Or.inl ⟨by rfl, ?_⟩) (by assumption) ?_
              rotate_left 1
              · (intro w hSw; (try dsimp only at hSw); go_simp <;> (with_reducible rfl))
              (try simp only [Act.put, List.setIfInBounds_toArray, List.set_cons_zero, List.set_cons_succ])
              refine wpAnyH_take (i := 15) (oi := { dst := some 142, op := Op.move (Operand.tmp 6), type := 22, pos := "outright.go:152", after := #[{ on := 13, ground := Ground.guard }], guard := some (13, true) }) (v := ?_) rfl (by kernel_rfl) (by kernel_rfl) (by kernel_rfl) (fun _ _ _ h => h) (Or.inl ⟨by rfl, ?_⟩) (by assumption) ?_
              rotate_left 1
              · (intro w hSw; (try dsimp only at hSw); go_simp <;> (with_reducible rfl))
              (try simp only [Act.put, List.setIfInBounds_toArray, List.set_cons_zero, List.set_cons_succ])
              refine wpAnyH_take (i := 16) (oi := { dst := some 143, op := Op.call { callee := Callee.builtin Builtin.len, args := #[Operand.tmp 142], argTypes := #[22] }, type := 3, pos := "outright.go:152", after := #[{ on := 15, ground := Ground.data }, { on := 13, ground := Ground.guard }], guard := some (13, true) }) (v := ?_) rfl (by kernel_rfl) (by kernel_rfl) (by kernel_rfl) (fun _ _ _ h => h) (Or.inl ⟨by rfl, ?_⟩) (by assumption) ?_
              rotate_left 1
              · (intro w hSw; (try dsimp only at hSw); go_simp <;> (with_reducible rfl))
              (try simp only [Act.put, List.setIfInBounds_toArray, List.set_cons_zero, List.set_cons_succ])
              refine wpAnyH_take (i := 17) (oi := { dst := some 144, op := Op.binOp BinOp.sub 3 (Operand.tmp 143) (Operand.const (Value.int IntKind.i64 1)) 3, type := 3, pos := "outright.go:152", after := #[{ on := 16, ground := Ground.data }, { on := 13, ground := Ground.guard }], guard := some (13, true) }) (v := ?_) rfl (by kernel_rfl) (by kernel_rfl) (by kernel_rfl) (fun _ _ _ h => h) (Or.inl ⟨by rfl, ?_⟩) (by assumption) ?_
              rotate_left 1
              · (intro w hSw; (try dsimp only at hSw); go_simp <;> (with_reducible rfl))
              (try simp only [Act.put, List.setIfInBounds_toArray, List.set_cons_zero, List.set_cons_succ])
              refine wpAnyH_take (i := 18) (oi := { dst := some 145, op := Op.indexAddr 22 (Operand.tmp 141) (Operand.tmp 144), type := 0, pos := "outright.go:152", after := #[{ on := 14, ground := Ground.data }, { on := 17, ground := Ground.data }, { on := 13, ground := Ground.guard }], guard := some (13, true) }) (v := ?_) rfl (by kernel_rfl) (by kernel_rfl) (by kernel_rfl) (fun _ _ _ h => h) (Or.inl ⟨by rfl, ?_⟩) (by assumption) ?_
              rotate_left 1
              · (intro w hSw; (try dsimp only at hSw); go_simp <;> (with_reducible rfl))
              (try simp only [Act.put, List.setIfInBounds_toArray, List.set_cons_zero, List.set_cons_succ])
              refine wpAnyH_take (i := 19) (oi := { dst := some 146, op := Op.fieldAddr 34 (Operand.tmp 145) 1, type := 0, pos := "outright.go:152", after := #[{ on := 18, ground := Ground.data }, { on := 13, ground := Ground.guard }], guard := some (13, true) }) (v := ?_) rfl (by kernel_rfl) (by kernel_rfl) (by kernel_rfl) (fun _ _ _ h => h) (Or.inl ⟨by rfl, ?_⟩) (by assumption) ?_
              rotate_left 1
              · (intro w hSw; (try dsimp only at hSw); go_simp <;> (with_reducible rfl))
              (try simp only [Act.put, List.setIfInBounds_toArray, List.set_cons_zero, List.set_cons_succ])
              refine wpAnyH_take (i := 20) (oi := { dst := some 147, op := Op.load 3 (Operand.tmp 146), type := 3, pos := "outright.go:152", after := #[{ on := 19, ground := Ground.data }, { on := 13, ground := Ground.guard }], guard := some (13, true) }) (v := ?_) rfl (by kernel_rfl) (by kernel_rfl) (by kernel_rfl) (fun _ _ _ h => h) (Or.inl ⟨by rfl, ?_⟩) (by assumption) ?_
              rotate_left 1
              · (intro w hSw; (try dsimp only at hSw); go_simp <;> (with_reducible rfl))
              (try simp only [Act.put, List.setIfInBounds_toArray, List.set_cons_zero, List.set_cons_succ])
              refine wpAnyH_take (i := 21) (oi := { dst := some 148, op := Op.move (Operand.tmp 5), type := 22, pos := "outright.go:152", after := #[{ on := 13, ground := Ground.guard }], guard := some (13, true) }) (v := ?_) rfl (by kernel_rfl) (by kernel_rfl) (by kernel_rfl) (fun _ _ _ h => h) (Or.inl ⟨by rfl, ?_⟩) (by assumption) ?_
              rotate_left 1
              · (intro w hSw; (try dsimp only at hSw); go_simp <;> (with_reducible rfl))
              (try simp only [Act.put, List.setIfInBounds_toArray, List.set_cons_zero, List.set_cons_succ])
              refine wpAnyH_take (i := 22) (oi := { dst := some 149, op := Op.move (Operand.tmp 5), type := 22, pos := "outright.go:152", after := #[{ on := 13, ground := Ground.guard }], guard := some (13, true) }) (v := ?_) rfl (by kernel_rfl) (by kernel_rfl) (by kernel_rfl) (fun _ _ _ h => h) (Or.inl ⟨by rfl, ?_⟩) (by assumption) ?_
              rotate_left 1
              · (intro w hSw; (try dsimp only at hSw); go_simp <;> (with_reducible rfl))
              (try simp only [Act.put, List.setIfInBounds_toArray, List.set_cons_zero, List.set_cons_succ])
              refine wpAnyH_take (i := 23) (oi := { dst := some 150, op := Op.call { callee := Callee.builtin Builtin.len, args := #[Operand.tmp 149], argTypes := #[22] }, type := 3, pos := "outright.go:152", after := #[{ on := 22, ground := Ground.data }, { on := 13, ground := Ground.guard }], guard := some (13, true) }) (v := ?_) rfl (by kernel_rfl) (by kernel_rfl) (by kernel_rfl) (fun _ _ _ h => h) (Or.inl ⟨by rfl, ?_⟩) (by assumption) ?_
              rotate_left 1
              · (intro w hSw; (try dsimp only at hSw); go_simp <;> (with_reducible rfl))
              (try simp only [Act.put, List.setIfInBounds_toArray, List.set_cons_zero, List.set_cons_succ])
              refine wpAnyH_take (i := 24) (oi := { dst := some 151, op := Op.binOp BinOp.sub 3 (Operand.tmp 150) (Operand.const (Value.int IntKind.i64 1)) 3, type := 3, pos := "outright.go:152", after := #[{ on := 23, ground := Ground.data }, { on := 13, ground := Ground.guard }], guard := some (13, true) }) (v := ?_) rfl (by kernel_rfl) (by kernel_rfl) (by kernel_rfl) (fun _ _ _ h => h) (Or.inl ⟨by rfl, ?_⟩) (by assumption) ?_
              rotate_left 1
              · (intro w hSw; (try dsimp only at hSw); go_simp <;> (with_reducible rfl))
              (try simp only [Act.put, List.setIfInBounds_toArray, List.set_cons_zero, List.set_cons_succ])
              refine wpAnyH_take (i := 25) (oi := { dst := some 152, op := Op.indexAddr 22 (Operand.tmp 148) (Operand.tmp 151), type := 0, pos := "outright.go:152", after := #[{ on := 21, ground := Ground.data }, { on := 24, ground := Ground.data }, { on := 13, ground := Ground.guard }], guard := some (13, true) }) (v := ?_) rfl (by kernel_rfl) (by kernel_rfl) (by kernel_rfl) (fun _ _ _ h => h) (Or.inl ⟨by rfl, ?_⟩) (by assumption) ?_
              rotate_left 1
              · (intro w hSw; (try dsimp only at hSw); go_simp <;> (with_reducible rfl))
              (try simp only [Act.put, List.setIfInBounds_toArray, List.set_cons_zero, List.set_cons_succ])
              refine wpAnyH_take (i := 26) (oi := { dst := some 153, op := Op.fieldAddr 34 (Operand.tmp 152) 1, type := 0, pos := "outright.go:152", after := #[{ on := 25, ground := Ground.data }, { on := 13, ground := Ground.guard }], guard := some (13, true) }) (v := ?_) rfl (by kernel_rfl) (by kernel_rfl) (by kernel_rfl) (fun _ _ _ h => h) (Or.inl ⟨by rfl, ?_⟩) (by assumption) ?_
              rotate_left 1
              · (intro w hSw; (try dsimp only at hSw); go_simp <;> (with_reducible rfl))
              (try simp only [Act.put, List.setIfInBounds_toArray, List.set_cons_zero, List.set_cons_succ])
              refine wpAnyH_take (i := 27) (oi := { dst := some 154, op := Op.load 3 (Operand.tmp 153), type := 3, pos := "outright.go:152", after := #[{ on := 26, ground := Ground.data }, { on := 13, ground := Ground.guard }], guard := some (13, true) }) (v := ?_) rfl (by kernel_rfl) (by kernel_rfl) (by kernel_rfl) (fun _ _ _ h => h) (Or.inl ⟨by rfl, ?_⟩) (by assumption) ?_
              rotate_left 1
              · (intro w hSw; (try dsimp only at hSw); go_simp <;> (with_reducible rfl))
              (try simp only [Act.put, List.setIfInBounds_toArray, List.set_cons_zero, List.set_cons_succ])
              refine wpAnyH_take (i := 28) (oi := { dst := some 155, op := Op.binOp BinOp.eql 3 (Operand.tmp 147) (Operand.tmp 154) 3, type := 4, pos := "outright.go:152", after := #[{ on := 20, ground := Ground.data }, { on := 27, ground := Ground.data }, { on := 13, ground := Ground.guard }], guard := some (13, true) }) (v := ?_) rfl (by kernel_rfl) (by kernel_rfl) (by kernel_rfl) (fun _ _ _ h => h) (Or.inl ⟨by rfl, ?_⟩) (by assumption) ?_
              rotate_left 1
              · (intro w hSw; (try dsimp only at hSw); go_simp <;> (with_reducible rfl))
              (try simp only [Act.put, List.setIfInBounds_toArray, List.set_cons_zero, List.set_cons_succ])
              refine wpAnyH_take (i := 29) (oi := { dst := some 156, op := Op.pick (Operand.tmp 140) (Operand.tmp 155) (Operand.const (Value.bool false)), type := 4, pos := "outright.go:152", after := #[{ on := 13, ground := Ground.data }, { on := 28, ground := Ground.data }, { on := 3, ground := Ground.guard }], guard := some (3, false) }) (v := ?_) rfl (by kernel_rfl) (by kernel_rfl) (by kernel_rfl) (fun _ _ _ h => h) (Or.inl ⟨by rfl, ?_⟩) (by assumption) ?_
              rotate_left 1
              · (intro w hSw; (try dsimp only at hSw); go_simp <;> (with_reducible rfl))
              (try simp only [Act.put, List.setIfInBounds_toArray, List.set_cons_zero, List.set_cons_succ])
              refine wpAnyH_take (i := 30) (oi := { dst := some 157, op := Op.pick (Operand.tmp 130) (Operand.const (Value.bool true)) (Operand.tmp 156), type := 4, pos := "outright.go:152", after := #[{ on := 3, ground := Ground.data }, { on := 29, ground := Ground.data }], guard := none }) (v := ?_) rfl (by kernel_rfl) (by kernel_rfl) (by kernel_rfl) (fun _ _ _ h => h) (Or.inl ⟨by rfl, ?_⟩) (by assumption) ?_
              rotate_left 1
              · (intro w hSw; (try dsimp only at hSw); go_simp <;> (with_reducible rfl))
              (try simp only [Act.put, List.setIfInBounds_toArray, List.set_cons_zero, List.set_cons_succ])
              refine wpAnyH_take (i := 31) (oi := { dst := some 4, op := Op.assign (Operand.tmp 157), type := 4, pos := "outright.go:152", after := #[{ on := 30, ground := Ground.data }, { on := 13, ground := Ground.chain }, { on := 0, ground := Ground.phase }, { on := 1, ground := Ground.phase }, { on := 2, ground := Ground.phase }, { on := 3, ground := Ground.phase }, { on := 4, ground := Ground.phase }, { on := 5, ground := Ground.phase }, { on := 6, ground := Ground.phase }, { on := 7, ground := Ground.phase }, { on := 8, ground := Ground.phase }, { on := 9, ground := Ground.phase }, { on := 10, ground := Ground.phase }, { on := 11, ground := Ground.phase }, { on := 12, ground := Ground.phase }, { on := 13, ground := Ground.phase }, { on := 14, ground := Ground.phase }, { on := 15, ground := Ground.phase }, { on := 16, ground := Ground.phase }, { on := 17, ground := Ground.phase }, { on := 18, ground := Ground.phase }, { on := 19, ground := Ground.phase }, { on := 20, ground := Ground.phase }, { on := 21, ground := Ground.phase }, { on := 22, ground := Ground.phase }, { on := 23, ground := Ground.phase }, { on := 24, ground := Ground.phase }, { on := 25, ground := Ground.phase }, { on := 26, ground := Ground.phase }, { on := 27, ground := Ground.phase }, { on := 28, ground := Ground.phase }, { on := 29, ground := Ground.phase }, { on := 30, ground := Ground.phase }], guard := none }) (v := ?_) rfl (by kernel_rfl) (by kernel_rfl) (by kernel_rfl) (fun _ _ _ h => h) (Or.inl ⟨by rfl, ?_⟩) (by assumption) ?_
              rotate_left 1
              · (intro w hSw; (try dsimp only at hSw); go_simp <;> (with_reducible rfl))
              (try simp only [Act.put, List.setIfInBounds_toArray, List.set_cons_zero, List.set_cons_succ])
              refine wpAnyH_done (by kernel_rfl) ?_ _
              refine NoPanic.normal ?_
              clear hR0
              clear q1 q2 q3 q4 q5 q11 q12 q13 q14 q15 c1 c2 c3 c4
              go_wp2
              go_ret
              exact ⟨rfl, HE.out⟩

end Go.Proofs.Ytppihnliimbakaa
