/-
The reference's 'FromInt'; 'num', 'is'.
-/
import Derived.Test.YtodmbklednehbaaRefSame
import Derived.Deep.RegionHeld3
import Derived.Outline
namespace Go.Proofs.Ytodmbklednehbaa
open Go.RowKit Wh

def FIRel (n : Nat) (w wr : World) (v3 v4 : Value) : Prop := ∃ (m : Nat) (ds : List Nat), v3 = .int .u64 (m : Int) ∧ m < 18446744073709551616 ∧ dig n = ds ++ dig m ∧ wr.ownsRow (w.heap.size + 1) 22 1 v4 ds.length (cellsOf ds) ∧ Below w.heap.size w wr ∧ Bx wr w.heap.size (.bool false) (.slice none 0 0)

theorem cellsOf_snoc (ds : List Nat) (x : Nat) : cellsOf ds ++ [.int .u16 (x : Int)] = cellsOf (ds ++ [x]) := by simp [cellsOf]

set_option maxRecDepth 100000 in
set_option maxHeartbeats 2000000 in
theorem refFromInt_any (n : Int) (h1 : -9223372036854775808 ≤ n) (h2 : n ≤ 9223372036854775807) (w : World) :
    Calls Try.prog 55 #[.int .i64 n] w fun e w' => (∃ v, e = .returned v ∧ NumF w.heap.size w' v n) ∧ Below w.heap.size w w' := by
  obtain ⟨i0, hi, hz0, hz1, hz2⟩ := info_parts Try.infoU
  have hd4 : (dig n.natAbs).length ≤ 4 := (length_dig_le _ 4).2 (by show n.natAbs < 18446744073709551616; omega)
  have hw2 := fun W s (hl : Lim W s (dig n.natAbs)) => refMake_any (decide (n < 0)) s _ W hl
  rw [num_sign] at hw2
  have HW2 := Lib.hid hw2
  clear hw2
  have hz := (Below.refl w.heap.size w).alloc (Nat.le_refl _) (.cells #[.bool false, .slice none 0 0] 26)
  have x4 := Bx.new w (.bool false) (.slice none 0 0)
  have e2 : n < 0 → IntKind.u64.wrap (-IntKind.u64.wrap n) = ((n.natAbs : Nat) : Int) := fun h => by rw [IntKind.wrap_u64, IntKind.wrap_u64]; omega
  have e3 : 0 ≤ n → n = ((n.natAbs : Nat) : Int) := fun h => by omega
  have E2 := Lib.hid e2
  have E3 := Lib.hid e3
  have HD4 := Lib.hid hd4
  have hna : n.natAbs < 18446744073709551616 := by omega
  clear e2 e3 hd4
  rcases Int.lt_or_le n 0 with h0 | h0
  · have eb : decide (n < 0) = true := decide_eq_true h0
    rw [eb] at HW2
    have EB := Lib.hid eb
    clear eb
    go_enter Try.func55, Try.ntmps55
    go_wp2
    go_loopw [3, 4] (fun v3 v4 wr => FIRel n.natAbs w wr v3 v4) (fun v3 _ _ => (intOf v3).toNat)
    case atStart => exact ⟨n.natAbs, [], by rw [← E2.out h0], hna, rfl, World.ownsRow_nil _ _ _ _, hz, x4⟩
    case round =>
      obtain ⟨m, ds, rfl, hm, hds, hrow, hB, y4⟩ := hrel
      have HDS := Lib.hid hds
      clear hds
      rcases Nat.eq_zero_or_pos m with hm0 | hm0
      · subst hm0
        have hD : dig n.natAbs = ds := by rw [HDS.out, dig_zero, List.append_nil]
        have hl : Lim wr u4 ds := Lim.of_owns hrow (by rw [← hD]; have := HD4.out; omega)
        have hf := Fr.of_owns hrow
        rw [← hD] at hl
        obtain ⟨a3, c3, rfl⟩ := lim_slice hl
        clear hrow hD
        go_wp2_with (go_at_call 62; refine (HW2.out _ _ hl).mono ?_; rintro e w3 ⟨rfl, hb3⟩; have hB3 := hB.trans (hb3.mono hB.size); have v4 := y4.on hb3; obtain ⟨p4, p4'⟩ := v4.cells; obtain ⟨f4, f4'⟩ := v4.free)
        obtain ⟨k4, k4'⟩ := (v4.put (.bool true) (.slice a3 (dig n.natAbs).length c3)).cells
        have hlf : LimF (w.heap.size + 1) wr (.slice a3 (dig n.natAbs).length c3) (dig n.natAbs) := ⟨hl, hf⟩
        have hl3 := ((hlf.below hb3).put (B' := w.heap.size) (Nat.lt_succ_self _) (.bool true) (.slice a3 (dig n.natAbs).length c3)).mono (Nat.le_succ _)
        exact bodyPost_ret (v := .agg #[.bool true, .slice a3 (dig n.natAbs).length c3]) (by simp [results, Try.results55, go_sem, k4, k4']) rfl ⟨⟨_, rfl, _, by rw [EB.out], hl3⟩, Below.put hB3 (Nat.le_refl _) _ _⟩
      · have hm1 : (0 : Int) < (m : Int) := by omega
        have hlen : ds.length ≤ 4 := by have := HD4.out; rw [HDS.out, List.length_append] at this; omega
        have eX : cellsOf ds ++ [Value.int .u16 ((m : Int) % 65536)] = cellsOf (ds ++ [m % 65536]) := by rw [← cellsOf_snoc]; simp
        have HE := Lib.hid eX
        have hN : dig n.natAbs = (ds ++ [m % 65536]) ++ dig (m / 65536) := by rw [HDS.out, dig_pos (show m ≠ 0 by omega)]; simp
        have HN := Lib.hid hN
        have hmi : (m : Int) < 18446744073709551616 := by omega
        clear eX hN
        go_wp2_with (at_builtin; refine wpList_append_own _ rfl _ _ 24 rfl (w.heap.size + 1) 22 i0 (.int .u16 0) 1 2 Try.underlying24 hi hz0 hz1 hz2 rfl (by decide) _ _ _ rfl (hrow.alloc _) ⟨wr.heap.size, 0, none⟩ 1 1 [.int .u16 ((m : Int) % 65536)] rfl rfl (cell_one_new _ _ _) (by simp [Value.oneCell']) (by unfold maxLen; omega) (by omega) (by simp; have := y4.lt; omega) ?_; intro v' w2 hrow2 hgrow _)
        rw [HE.out] at hrow2
        have hne : u4.ownBlock ≠ some w.heap.size := fun e => by have := (hrow.lt _ e).1; omega
        have y42 : Bx w2 w.heap.size (.bool false) (.slice none 0 0) := (hgrow.block w.heap.size ((y4.alloc _).lt) (fun e => hne e.symm)).trans (y4.alloc _)
        have hB2 := (hB.alloc hB.size (.cells #[.int .u16 ((m : Int) % 65536)] 22)).grown hgrow (by simp; have := hB.size; omega) (fun k e => by have := (hrow.lt k e).1; omega)
        go_roundw
        case rel => exact ⟨m / 65536, ds ++ [m % 65536], by go_num, by omega, HN.out, by simpa using hrow2, hB2, y42⟩
        case measure => simp [intOf]; omega
  · go_enter Try.func55, Try.ntmps55
    go_wp2
    go_loopw [3, 4] (fun v3 v4 wr => FIRel n.natAbs w wr v3 v4) (fun v3 _ _ => (intOf v3).toNat)
    case atStart => exact ⟨n.natAbs, [], by rw [← E3.out h0], hna, rfl, World.ownsRow_nil _ _ _ _, hz, x4⟩
    case round =>
      obtain ⟨m, ds, rfl, hm, hds, hrow, hB, y4⟩ := hrel
      have HDS := Lib.hid hds
      clear hds
      rcases Nat.eq_zero_or_pos m with hm0 | hm0
      · subst hm0
        have hD : dig n.natAbs = ds := by rw [HDS.out, dig_zero, List.append_nil]
        have hl : Lim wr u4 ds := Lim.of_owns hrow (by rw [← hD]; have := HD4.out; omega)
        have hf := Fr.of_owns hrow
        rw [← hD] at hl
        obtain ⟨a3, c3, rfl⟩ := lim_slice hl
        clear hrow hD
        go_wp2_with (go_at_call 62; refine (HW2.out _ _ hl).mono ?_; rintro e w3 ⟨rfl, hb3⟩; have hB3 := hB.trans (hb3.mono hB.size); have v4 := y4.on hb3; obtain ⟨p4, p4'⟩ := v4.cells; obtain ⟨f4, f4'⟩ := v4.free)
        obtain ⟨k4, k4'⟩ := (v4.put (.bool (decide (n < 0))) (.slice a3 (dig n.natAbs).length c3)).cells
        have hlf : LimF (w.heap.size + 1) wr (.slice a3 (dig n.natAbs).length c3) (dig n.natAbs) := ⟨hl, hf⟩
        have hl3 := ((hlf.below hb3).put (B' := w.heap.size) (Nat.lt_succ_self _) (.bool (decide (n < 0))) (.slice a3 (dig n.natAbs).length c3)).mono (Nat.le_succ _)
        exact bodyPost_ret (v := .agg #[.bool (decide (n < 0)), .slice a3 (dig n.natAbs).length c3]) (by simp [results, Try.results55, go_sem, k4, k4']) rfl ⟨⟨_, rfl, _, rfl, hl3⟩, Below.put hB3 (Nat.le_refl _) _ _⟩
      · have hm1 : (0 : Int) < (m : Int) := by omega
        have hlen : ds.length ≤ 4 := by have := HD4.out; rw [HDS.out, List.length_append] at this; omega
        have eX : cellsOf ds ++ [Value.int .u16 ((m : Int) % 65536)] = cellsOf (ds ++ [m % 65536]) := by rw [← cellsOf_snoc]; simp
        have HE := Lib.hid eX
        have hN : dig n.natAbs = (ds ++ [m % 65536]) ++ dig (m / 65536) := by rw [HDS.out, dig_pos (show m ≠ 0 by omega)]; simp
        have HN := Lib.hid hN
        have hmi : (m : Int) < 18446744073709551616 := by omega
        clear eX hN
        go_wp2_with (at_builtin; refine wpList_append_own _ rfl _ _ 24 rfl (w.heap.size + 1) 22 i0 (.int .u16 0) 1 2 Try.underlying24 hi hz0 hz1 hz2 rfl (by decide) _ _ _ rfl (hrow.alloc _) ⟨wr.heap.size, 0, none⟩ 1 1 [.int .u16 ((m : Int) % 65536)] rfl rfl (cell_one_new _ _ _) (by simp [Value.oneCell']) (by unfold maxLen; omega) (by omega) (by simp; have := y4.lt; omega) ?_; intro v' w2 hrow2 hgrow _)
        rw [HE.out] at hrow2
        have hne : u4.ownBlock ≠ some w.heap.size := fun e => by have := (hrow.lt _ e).1; omega
        have y42 : Bx w2 w.heap.size (.bool false) (.slice none 0 0) := (hgrow.block w.heap.size ((y4.alloc _).lt) (fun e => hne e.symm)).trans (y4.alloc _)
        have hB2 := (hB.alloc hB.size (.cells #[.int .u16 ((m : Int) % 65536)] 22)).grown hgrow (by simp; have := hB.size; omega) (fun k e => by have := (hrow.lt k e).1; omega)
        go_roundw
        case rel => exact ⟨m / 65536, ds ++ [m % 65536], by go_num, by omega, HN.out, by simpa using hrow2, hB2, y42⟩
        case measure => simp [intOf]; omega

set_option maxRecDepth 100000 in
set_option maxHeartbeats 1000000 in
theorem num_any (n : Int) (h1 : -9223372036854775808 ≤ n) (h2 : n ≤ 9223372036854775807) (w : World) :
    Calls Try.prog 25 #[.int .i64 n] w fun e w' => (∃ v, e = .returned v ∧ NumF w.heap.size w' v n) ∧ Below w.heap.size w w' := by
  have hw1 := fun W => FromInt_any n h1 h2 W
  have HW1 := Lib.hid hw1
  clear hw1 h1 h2
  have hz := (Below.refl w.heap.size w).alloc (Nat.le_refl _) (.cells #[.bool false, .slice none 0 0] 26)
  have x4 := Bx.new w (.bool false) (.slice none 0 0)
  go_enter Try.func25, Try.ntmps25
  go_wp2_with (go_at_call 53; refine (HW1.out _).mono ?_; rintro e w2 ⟨⟨v, rfl, ⟨s, rfl, hl⟩⟩, hb2⟩; obtain ⟨a3, c3, rfl⟩ := lf_slice hl; have hB2 := hz.trans (hb2.mono hz.size); have z4 := x4.on hb2; obtain ⟨p4, p4'⟩ := z4.cells; obtain ⟨f4, f4'⟩ := z4.free)
  obtain ⟨k4, k4'⟩ := (z4.put (.bool (decide (n < 0))) (.slice a3 (dig n.natAbs).length c3)).cells
  have hl3 := (hl.put (B' := w.heap.size) (by simp) (.bool (decide (n < 0))) (.slice a3 (dig n.natAbs).length c3)).mono hz.size
  exact bodyPost_ret (v := .agg #[.bool (decide (n < 0)), .slice a3 (dig n.natAbs).length c3]) (by simp [results, Try.results25, go_sem, k4, k4']) rfl ⟨⟨_, rfl, _, rfl, hl3⟩, Below.put hB2 (Nat.le_refl _) _ _⟩

theorem num_eq_iff (a b : Int) : (decide (a < 0) = decide (b < 0) ∧ dig a.natAbs = dig b.natAbs) ↔ a = b := by
  constructor
  · rintro ⟨h1, h2⟩
    have h3 := congrArg val h2
    rw [val_dig, val_dig] at h3
    have h4 := decide_eq_decide.1 h1
    omega
  · rintro rfl; exact ⟨rfl, rfl⟩

/-- The reference's 'Same' of two numbers. -/
theorem refSame_num (va vb : Value) (a b : Int) (w : World) (h : Num w va a) (g : Num w vb b) :
    Calls Try.prog 47 #[va, vb] w fun e w' => e = .returned (.bool (decide (a = b))) ∧ Below w.heap.size w w' := by
  obtain ⟨s, rfl, h⟩ := h
  obtain ⟨s', rfl, g⟩ := g
  have := refSame_any (decide (a < 0)) s _ (decide (b < 0)) s' _ w h g
  rwa [show decide (decide (a < 0) = decide (b < 0) ∧ dig a.natAbs = dig b.natAbs) = decide (a = b) from decide_eq_decide.2 (num_eq_iff a b)] at this

set_option maxRecDepth 100000 in
set_option maxHeartbeats 1000000 in
theorem is_any (v : Value) (n : Int) (h1 : -9223372036854775808 ≤ n) (h2 : n ≤ 9223372036854775807) (w : World) (h : Num w v n) :
    Calls Try.prog 27 #[v, .int .i64 0, .int .i64 n] w fun e w' => e = .returned (.bool true) ∧ Below w.heap.size w w' := by
  obtain ⟨s, rfl, h⟩ := h
  have hw1 := fun W => refFromInt_any n h1 h2 W
  have HW1 := Lib.hid hw1
  have hw2 := fun vb W (hW : Below w.heap.size w W) (hn : Num W vb n) => refSame_num (.agg #[.bool (decide (n < 0)), s]) vb n n W ⟨s, rfl, h.below hW (Nat.le_refl _)⟩ hn
  rw [decide_eq_true rfl] at hw2
  have HW2 := Lib.hid hw2
  obtain ⟨aa, ca, rfl⟩ := lim_slice h
  clear hw1 hw2 h h1 h2
  obtain ⟨ja, hja⟩ : ∃ k, k = (dig n.natAbs).length := ⟨_, rfl⟩
  obtain ⟨na, hna⟩ : ∃ b, b = decide (n < 0) := ⟨_, rfl⟩
  rw [← hja, ← hna] at HW2
  rw [← hja, ← hna]
  clear hja hna
  have hz := (Below.refl w.heap.size w).alloc (Nat.le_refl _) (.cells #[.bool na, .slice aa ja ca] 26)
  have x2 := Bx.new w (.bool na) (.slice aa ja ca)
  obtain ⟨p2, p2'⟩ := x2.cells
  go_enter Try.func27, Try.ntmps27
  go_wp2_with fail
  go_region_held3 (fun w' => w'.cell? ⟨w.heap.size, 0, none⟩ = some (.bool na) ∧ w'.cell? ⟨w.heap.size, 1, none⟩ = some (.slice aa ja ca))
    (first | go_keep | exact ⟨q2, q2'⟩)
    (first
    | (go_at_call 55; refine (HW1.out _).mono ?_; rintro e w2 ⟨⟨vb, rfl, hnb⟩, hb2⟩; have hB2 := hz.drew.trans (hb2.mono hz.size); have z2 := x2.ond hb2; obtain ⟨q2, q2'⟩ := z2.cells)
    | (go_at_call 47; refine (HW2.out _ _ hB2 hnb.num).mono ?_; rintro e w3 ⟨rfl, hb3⟩; have hB3 := hB2.trans (hb3.mono hB2.size); have u2 := z2.on hb3; obtain ⟨r2, r2'⟩ := u2.cells))
  go_wp2
  go_ret
  exact ⟨rfl, hB3⟩

end Go.Proofs.Ytodmbklednehbaa
