/- A part of the proofs about fractions. -/
import Derived.Below
import Derived.Laws.OwnMore
import Derived.OwnWalk
import Derived.Test.YtmbcnfogjncdaaaQWl20
set_option maxRecDepth 100000
set_option maxHeartbeats 4000000
namespace Go.Proofs.Ytmbcnfogjncdaaa
open Go.RowKit Wh
def wlim (x : Nat) : Nat := if x = 0 then 1 else x
theorem wlim_pos {x : Nat} (h : 0 < x) : wlim x = x := if_neg (by omega)
theorem wlim_lt {x : Nat} (h : x < 65536) : wlim x < 65536 := by unfold wlim; split <;> omega
theorem wlim_ne (x : Nat) : wlim x ≠ 0 := by unfold wlim; split <;> omega
def WlS (z : Int) (s i : Value) : Prop := ∃ (j : Nat) (b : ByteArray), j ≤ 200 ∧ s = .string b ∧ b.data.toList = txt (z * 10 ^ j) ∧ b.size ≤ 4934 + j ∧ i = .int .i64 (j : Int)
theorem wls_more {z : Int} {j : Nat} {b : ByteArray} (hz : z ≠ 0) (h : b.data.toList = txt (z * 10 ^ j)) : (b ++ ⟨#[48]⟩).data.toList = txt (z * 10 ^ (j + 1)) := by
 rw [← txt_more2 hz j, ← h]; simp [ByteArray.data_append]
theorem wls_size (b : ByteArray) : (b ++ ⟨#[48]⟩ : ByteArray).size = b.size + 1 := by rw [ByteArray.size_append]; rfl
theorem own_ne {wr : World} {base : Nat} {e : TypeId} {s v : Value} {n : Nat} {xs : List Value} (hrow : wr.ownsRow base e 1 s n xs) (hv : ∀ g, v.ownBlock = some g → g < base) : v.ownBlock = none ∨ v.ownBlock ≠ s.ownBlock := by
 cases h : v.ownBlock with
 | none => exact .inl rfl
 | some g =>
  refine .inr fun e => ?_
  have h1 := (hrow.lt g e.symm).1
  have h2 := hv g h
  omega
theorem WholeLimits_any (n k : Int) (x : Nat) (hx : x < 65536) (neg : Bool) (w : World) :
    Calls Try.prog 3 #[.int .i64 n, .int .i64 k, .int .u16 (x : Int), .bool neg] w fun e w' => e = .returned (.bool true) ∧ Below w.heap.size w w' := by
  obtain ⟨i0, hi, hz0, hz1, hz2⟩ := info_parts Try.infoU
  obtain ⟨N, hN⟩ : ∃ N : Nat, n % 31 = (N : Int) := ⟨(n % 31).toNat, by omega⟩
  obtain ⟨K, hK⟩ : ∃ K : Nat, k % 1031 = (K : Int) := ⟨(k % 1031).toNat, by omega⟩
  have hN0 : (0 : Int) ≤ (N : Int) := by omega
  have hN2 : (N : Int) ≤ 30 := by omega
  have hK0 : (0 : Int) ≤ (K : Int) := by omega
  have hK2 : (K : Int) ≤ 1030 := by omega
  have HP := Lib.hid (fun W => kPick_any n 31 (by decide) (by decide) W)
  have HQ := Lib.hid (fun W => kPick_any k 1031 (by decide) (by decide) W)
  rw [hN] at HP
  rw [hK] at HQ
  clear hN hK
  go_enter Try.func3, Try.ntmps3
  go_wp2_with fail
  refine (HP.out _).mono ?_
  rintro e w1 ⟨rfl, rfl⟩
  go_wp2_with fail
  refine (HQ.out _).mono ?_
  rintro e w1 ⟨rfl, rfl⟩
  go_wp2_with fail
  go_loopw [11] (fun i wr => WlRel (w.heap.size + 2) w.heap.size (w.heap.size + 1) (.bool neg) #[.bool false, .slice none 0 0] (1000 + N) (wlim x) w i wr) (fun i _ => (1031 - intOf i).toNat)
  case atStart =>
    have xa := (Bk.new w #[.bool neg, .slice none 0 0] 26).on ((Below.refl _ (w.alloc (.cells #[.bool neg, .slice none 0 0] 26))).alloc (Nat.le_refl _) (.cells #[.bool false, .slice none 0 0] 26))
    have xb := Bk.new (w.alloc (.cells #[.bool neg, .slice none 0 0] 26)) #[.bool false, .slice none 0 0] 26
    simp only [World.size_alloc] at xb
    exact ⟨0, _, Nat.zero_le _, rfl, xa, xb, World.ownsRow_nil _ _ _ _, ((Below.refl _ w).alloc (Nat.le_refl _) _).alloc (by simp) _⟩
  case round =>
    obtain ⟨j, s, hj, rfl, xa, xb, hrow, hB⟩ := hrel
    rcases Nat.lt_or_ge j (1000 + N) with hjn | hjn
    · have hj1 : (j : Int) < 1000 + (N : Int) := by omega
      rcases Nat.eq_zero_or_pos x with hx0 | hx0
      · have hx1 : (x : Int) < 1 := by omega
        have hxi : (0 : Int) ≤ (x : Int) := by omega
        have HX := Lib.hid hx0
        clear hx0
        have pa1 := xa.cell 1
        have fa1 := xa.free 1
        simp only [List.getElem?_toArray, List.getElem?_cons_zero, List.getElem?_cons_succ] at pa1
        have lta := xa.lt
        have ltb := xb.lt
        have HE := Lib.hid (show cellsOf (List.replicate j (wlim x)) ++ [Value.int .u16 1] = cellsOf (List.replicate (j + 1) (wlim x)) by rw [show wlim x = 1 from (by rw [HX.out]; rfl), show (1 : Int) = ((1 : Nat) : Int) by simp, cellsOf_snoc, List.replicate_succ'])
        have HB := Lib.hid hB
        clear hB
        go_wp2_with (at_builtin; (refine wpList_append_own _ rfl _ _ 24 rfl (w.heap.size + 2) 22 i0 (.int .u16 0) 1 2 Try.underlying24 hi hz0 hz1 hz2 rfl (by decide) _ _ _ rfl (hrow.alloc _) ⟨wr.heap.size, 0, none⟩ 1 1 [.int .u16 1] rfl rfl (cell_one_new _ _ _) (by simp [Value.oneCell']) (by unfold maxLen; omega) (by omega) (by simp; omega) ?_; intro v' w2 hrow2 hgrow _; rw [HE.out] at hrow2; have hl2 := Lim.of_owns hrow2 (by simp; omega); have hb2 := ((Below.refl (w.heap.size + 2) wr).alloc (by omega) (.cells #[.int .u16 1] 22)).grown hgrow (by simp; omega) (fun k e => by have := (hrow.lt k e).1; omega); obtain ⟨a2, c2, rfl⟩ := lim_slice hl2; clear hl2 pa1 fa1; have xa2 := xa.under hb2 (by omega); have xb2 := xb.under hb2 (by omega); have pa2 := xa2.cell 1; have fa2 := xa2.free 1; simp only [List.getElem?_toArray, List.getElem?_cons_zero, List.getElem?_cons_succ] at pa2))
        go_roundw
        case rel => exact ⟨j + 1, .slice a2 (j + 1) c2, hjn, by go_num, xa2.put 1 (.slice a2 (j + 1) c2), xb2.put_other _ 1 (.slice a2 (j + 1) c2) (by omega), (by have h1 := ownsRow_setCell_below hrow2 (a := ⟨w.heap.size, 1, none⟩) (by simp) (.slice a2 (j + 1) c2); simpa using h1), ((HB.out.trans (hb2.mono (by omega))).setCell (p := ⟨w.heap.size, 1, none⟩) (by simp) (.slice a2 (j + 1) c2))⟩
        case measure => simp [intOf]; omega
      · have hx1 : (1 : Int) ≤ (x : Int) := by omega
        have hxi : (x : Int) ≤ 65535 := by omega
        have pa1 := xa.cell 1
        have fa1 := xa.free 1
        simp only [List.getElem?_toArray, List.getElem?_cons_zero, List.getElem?_cons_succ] at pa1
        have lta := xa.lt
        have ltb := xb.lt
        have HE := Lib.hid (show cellsOf (List.replicate j (wlim x)) ++ [Value.int .u16 (x : Int)] = cellsOf (List.replicate (j + 1) (wlim x)) by rw [show wlim x = x from wlim_pos hx0, cellsOf_snoc, List.replicate_succ'])
        have HB := Lib.hid hB
        clear hB
        go_wp2_with (at_builtin; (refine wpList_append_own _ rfl _ _ 24 rfl (w.heap.size + 2) 22 i0 (.int .u16 0) 1 2 Try.underlying24 hi hz0 hz1 hz2 rfl (by decide) _ _ _ rfl (hrow.alloc _) ⟨wr.heap.size, 0, none⟩ 1 1 [.int .u16 (x : Int)] rfl rfl (cell_one_new _ _ _) (by simp [Value.oneCell']) (by unfold maxLen; omega) (by omega) (by simp; omega) ?_; intro v' w2 hrow2 hgrow _; rw [HE.out] at hrow2; have hl2 := Lim.of_owns hrow2 (by simp; omega); have hb2 := ((Below.refl (w.heap.size + 2) wr).alloc (by omega) (.cells #[.int .u16 (x : Int)] 22)).grown hgrow (by simp; omega) (fun k e => by have := (hrow.lt k e).1; omega); obtain ⟨a2, c2, rfl⟩ := lim_slice hl2; clear hl2 pa1 fa1; have xa2 := xa.under hb2 (by omega); have xb2 := xb.under hb2 (by omega); have pa2 := xa2.cell 1; have fa2 := xa2.free 1; simp only [List.getElem?_toArray, List.getElem?_cons_zero, List.getElem?_cons_succ] at pa2))
        go_roundw
        case rel => exact ⟨j + 1, .slice a2 (j + 1) c2, hjn, by go_num, xa2.put 1 (.slice a2 (j + 1) c2), xb2.put_other _ 1 (.slice a2 (j + 1) c2) (by omega), (by have h1 := ownsRow_setCell_below hrow2 (a := ⟨w.heap.size, 1, none⟩) (by simp) (.slice a2 (j + 1) c2); simpa using h1), ((HB.out.trans (hb2.mono (by omega))).setCell (p := ⟨w.heap.size, 1, none⟩) (by simp) (.slice a2 (j + 1) c2))⟩
        case measure => simp [intOf]; omega
    · have hj1 : ¬ (j : Int) < 1000 + (N : Int) := by omega
      obtain rfl : j = 1000 + N := by omega
      have lta := xa.lt
      have ltb := xb.lt
      go_wp2_with fail
      have hsA := Lib.hid (show ∀ g, s.ownBlock = some g → g < wr.heap.size from fun g e => (hrow.lt g e).2)
      obtain ⟨N5, hN5⟩ : ∃ q, q = wr.heap.size := ⟨_, rfl⟩
      rw [← hN5] at hsA ltb lta
      go_loopw [12] (fun i wr => WlRel N5 (w.heap.size + 1) w.heap.size (.bool false) #[.bool neg, s] K (wlim ((x + 1) % 65536)) w i wr ∧ wr.ownsRow (w.heap.size + 2) 22 1 s (1000 + N) (cellsOf (List.replicate (1000 + N) (wlim x))) ∧ N5 ≤ wr.heap.size) (fun i _ => (1031 - intOf i).toNat)
      case atStart => exact ⟨⟨0, .slice none 0 0, Nat.zero_le _, rfl, xb, xa, World.ownsRow_nil _ _ _ _, hB⟩, hrow, by omega⟩
      case round =>
        clear xa xb hrow hB hN5
        obtain ⟨⟨j, s2, hj, rfl, xa, xb, hrow, hB⟩, hro, h5⟩ := hrel
        rcases Nat.lt_or_ge j K with hjn | hjn
        · have hj1 : (j : Int) < (K : Int) := by omega
          rcases Nat.lt_or_ge x 65535 with hx0 | hx0
          · have hx1 : (0 : Int) ≤ (x : Int) := by omega
            have hxi : (x : Int) ≤ 65534 := by omega
            have hw1 : IntKind.u16.wrap ((x : Int) + 1) = (x : Int) + 1 := by rw [IntKind.wrap_u16]; omega
            have pa1 := xa.cell 1
            have fa1 := xa.free 1
            simp only [List.getElem?_toArray, List.getElem?_cons_zero, List.getElem?_cons_succ] at pa1
            have lta := xa.lt
            have ltb := xb.lt
            have HE := Lib.hid (show cellsOf (List.replicate j (wlim ((x + 1) % 65536))) ++ [Value.int .u16 ((x : Int) + 1)] = cellsOf (List.replicate (j + 1) (wlim ((x + 1) % 65536))) by rw [show wlim ((x + 1) % 65536) = (x + 1) from (by rw [Nat.mod_eq_of_lt (by omega)]; exact wlim_pos (by omega)), show (((x : Int) + 1) : Int) = (((x + 1) : Nat) : Int) by simp, cellsOf_snoc, List.replicate_succ'])
            have HB := Lib.hid hB
            clear hB
            go_wp2_with (at_builtin; (refine wpList_append_own _ rfl _ _ 24 rfl (N5) 22 i0 (.int .u16 0) 1 2 Try.underlying24 hi hz0 hz1 hz2 rfl (by decide) _ _ _ rfl (hrow.alloc _) ⟨wr.heap.size, 0, none⟩ 1 1 [.int .u16 ((x : Int) + 1)] rfl rfl (cell_one_new _ _ _) (by simp [Value.oneCell']) (by unfold maxLen; omega) (by omega) (by simp; omega) ?_; intro v' w2 hrow2 hgrow _; rw [HE.out] at hrow2; have hl2 := Lim.of_owns hrow2 (by simp; omega); have hb2 := ((Below.refl (N5) wr).alloc (by omega) (.cells #[.int .u16 ((x : Int) + 1)] 22)).grown hgrow (by simp; omega) (fun k e => by have := (hrow.lt k e).1; omega); obtain ⟨a2, c2, rfl⟩ := lim_slice hl2; clear hl2 pa1 fa1; have xa2 := xa.under hb2 (by omega); have xb2 := xb.under hb2 (by omega); have hro2 := (hro.alloc (.cells #[.int .u16 ((x : Int) + 1)] 22)).kept hgrow (own_ne hrow hsA.out); have pa2 := xa2.cell 1; have fa2 := xa2.free 1; simp only [List.getElem?_toArray, List.getElem?_cons_zero, List.getElem?_cons_succ] at pa2))
            go_roundw
            case rel => exact ⟨⟨j + 1, .slice a2 (j + 1) c2, hjn, by go_num, xa2.put 1 (.slice a2 (j + 1) c2), xb2.put_other _ 1 (.slice a2 (j + 1) c2) (by omega), (by have h1 := ownsRow_setCell_below hrow2 (a := ⟨w.heap.size + 1, 1, none⟩) (by simp; omega) (.slice a2 (j + 1) c2); simpa using h1), ((HB.out.trans (hb2.mono (by omega))).setCell (p := ⟨w.heap.size + 1, 1, none⟩) (by simp) (.slice a2 (j + 1) c2))⟩, by have h1 := ownsRow_setCell_below hro2 (a := ⟨w.heap.size + 1, 1, none⟩) (by simp) (.slice a2 (j + 1) c2); simpa using h1, by have h1 := hb2.size; simp; omega⟩
            case measure => simp [intOf]; omega
          · have HX := Lib.hid (show x = 65535 by omega)
            have hx1 : (65535 : Int) ≤ (x : Int) := by omega
            have hxi : (x : Int) ≤ 65535 := by omega
            clear hx0
            have hw1 : IntKind.u16.wrap ((x : Int) + 1) = 0 := by rw [IntKind.wrap_u16]; omega
            have pa1 := xa.cell 1
            have fa1 := xa.free 1
            simp only [List.getElem?_toArray, List.getElem?_cons_zero, List.getElem?_cons_succ] at pa1
            have lta := xa.lt
            have ltb := xb.lt
            have HE := Lib.hid (show cellsOf (List.replicate j (wlim ((x + 1) % 65536))) ++ [Value.int .u16 1] = cellsOf (List.replicate (j + 1) (wlim ((x + 1) % 65536))) by rw [show wlim ((x + 1) % 65536) = 1 from (by rw [HX.out]; rfl), show (1 : Int) = ((1 : Nat) : Int) by simp, cellsOf_snoc, List.replicate_succ'])
            have HB := Lib.hid hB
            clear hB
            go_wp2_with (at_builtin; (refine wpList_append_own _ rfl _ _ 24 rfl (N5) 22 i0 (.int .u16 0) 1 2 Try.underlying24 hi hz0 hz1 hz2 rfl (by decide) _ _ _ rfl (hrow.alloc _) ⟨wr.heap.size, 0, none⟩ 1 1 [.int .u16 1] rfl rfl (cell_one_new _ _ _) (by simp [Value.oneCell']) (by unfold maxLen; omega) (by omega) (by simp; omega) ?_; intro v' w2 hrow2 hgrow _; rw [HE.out] at hrow2; have hl2 := Lim.of_owns hrow2 (by simp; omega); have hb2 := ((Below.refl (N5) wr).alloc (by omega) (.cells #[.int .u16 1] 22)).grown hgrow (by simp; omega) (fun k e => by have := (hrow.lt k e).1; omega); obtain ⟨a2, c2, rfl⟩ := lim_slice hl2; clear hl2 pa1 fa1; have xa2 := xa.under hb2 (by omega); have xb2 := xb.under hb2 (by omega); have hro2 := (hro.alloc (.cells #[.int .u16 1] 22)).kept hgrow (own_ne hrow hsA.out); have pa2 := xa2.cell 1; have fa2 := xa2.free 1; simp only [List.getElem?_toArray, List.getElem?_cons_zero, List.getElem?_cons_succ] at pa2))
            go_roundw
            case rel => exact ⟨⟨j + 1, .slice a2 (j + 1) c2, hjn, by go_num, xa2.put 1 (.slice a2 (j + 1) c2), xb2.put_other _ 1 (.slice a2 (j + 1) c2) (by omega), (by have h1 := ownsRow_setCell_below hrow2 (a := ⟨w.heap.size + 1, 1, none⟩) (by simp; omega) (.slice a2 (j + 1) c2); simpa using h1), ((HB.out.trans (hb2.mono (by omega))).setCell (p := ⟨w.heap.size + 1, 1, none⟩) (by simp) (.slice a2 (j + 1) c2))⟩, by have h1 := ownsRow_setCell_below hro2 (a := ⟨w.heap.size + 1, 1, none⟩) (by simp) (.slice a2 (j + 1) c2); simpa using h1, by have h1 := hb2.size; simp; omega⟩
            case measure => simp [intOf]; omega
        · have hj1 : ¬ (j : Int) < (K : Int) := by omega
          obtain rfl : K = j := by omega
          have la := Lim.of_owns hro (by simp; omega)
          have lb := Lim.of_owns hrow (by simp; omega)
          obtain ⟨aa, ca, rfl⟩ := lim_slice la
          obtain ⟨ab, cb, rfl⟩ := lim_slice lb
          simp only [List.length_replicate] at *
          clear hro hrow hsA h5 hi hz0 hz1 hz2
          have xq := xa
          replace xa := xb; replace xb := xq; clear xq hj1 hj lta ltb
          obtain ⟨t1, d1, A1, R1⟩ := Add_both neg aa (1000 + N) ca false ab K cb _ _ wr la lb (rep_Lm _ (wlim_lt hx)) (rep_Lm _ (wlim_lt (Nat.mod_lt _ (by decide))))
          obtain ⟨t2, d2, A2, R2⟩ := Sub_both neg aa (1000 + N) ca false ab K cb _ _ wr la lb (rep_Lm _ (wlim_lt hx)) (rep_Lm _ (wlim_lt (Nat.mod_lt _ (by decide))))
          obtain ⟨t3, d3, A3, R3⟩ := Mul_both neg aa (1000 + N) ca false ab K cb _ _ wr la lb (rep_Lm _ (wlim_lt hx)) (rep_Lm _ (wlim_lt (Nat.mod_lt _ (by decide))))
          have HA1 := Lib.hid A1
          have HR1 := Lib.hid R1
          have HA2 := Lib.hid A2
          have HR2 := Lib.hid R2
          have HA3 := Lib.hid A3
          have HR3 := Lib.hid R3
          have HS := Lib.hid (fun va vb t cd c d W h g => same_ansW va vb t cd c d W h g)
          have hvl := rep_vld neg (1000 + N) (y := wlim x) (wlim_ne x) (by omega)
          have HLm := Lib.hid (rep_Lm (1000 + N) (wlim_lt hx))
          have hlen := List.length_replicate (n := 1000 + N) (a := wlim x)
          generalize List.replicate (1000 + N) (wlim x) = l at *
          clear A1 R1 A2 R2 A3 R3 lb hx
          have hZ := Below.refl wr.heap.size wr
          have pa := xa.all2
          have pb := xb.all2
          have lta := xa.lt
          have ltb := xb.lt
          go_wp2_with fail
          clear lta ltb pa pb
          refine (HA1.out _ hZ).mono ?_
          rintro e w11 ⟨⟨v, c1, rfl, g1⟩, hb⟩
          obtain ⟨be, ae, ke, ce, rfl⟩ := g1.opened
          replace xa := xa.on hb; replace xb := xb.on hb; replace la := la.on hb; replace hZ := hZ.trans (hb.mono hZ.size)
          have hz11 := hb.size
          try simp at hz11
          replace hB := hB.trans (hb.mono hB.size); clear hb
          have pa := xa.all2
          have pb := xb.all2
          have lta := xa.lt
          have ltb := xb.lt
          go_wp2_with fail
          clear lta ltb pa pb
          have hb := ((Below.refl w11.heap.size w11).alloc (Nat.le_refl _) (.cells #[.bool be, .slice ae ke ce] 26))
          have xe : Bk _ w11.heap.size #[.bool be, .slice ae ke ce] 26 := (Bk.new w11 #[.bool be, .slice ae ke ce] 26)
          replace xa := xa.on hb; replace xb := xb.on hb; replace la := la.on hb; replace hZ := hZ.trans (hb.mono hZ.size); replace g1 := g1.on hb; replace hB := hB.trans (hb.mono hB.size); clear hb
          obtain ⟨ws0, hws0⟩ : ∃ W, W = (w11.alloc (.cells #[.bool be, .slice ae ke ce] 26)) := ⟨_, rfl⟩
          rw [← hws0] at hB xa xb xe la hZ g1 ⊢
          clear hws0
          refine (HA2.out _ hZ).mono ?_
          rintro e w12 ⟨⟨v, c2, rfl, g2⟩, hb⟩
          obtain ⟨bf, af, kf, cf, rfl⟩ := g2.opened
          replace xa := xa.on hb; replace xb := xb.on hb; replace xe := xe.on hb; replace la := la.on hb; replace hZ := hZ.trans (hb.mono hZ.size); replace g1 := g1.on hb
          have hz12 := hb.size
          try simp at hz12
          replace hB := hB.trans (hb.mono hB.size); clear hb
          have pa := xa.all2
          have pb := xb.all2
          have pe := xe.all2
          have lta := xa.lt
          have ltb := xb.lt
          have lte := xe.lt
          go_wp2_with fail
          clear lta ltb lte pa pb pe
          have hb := ((Below.refl w12.heap.size w12).alloc (Nat.le_refl _) (.cells #[.bool bf, .slice af kf cf] 26))
          have xf : Bk _ w12.heap.size #[.bool bf, .slice af kf cf] 26 := (Bk.new w12 #[.bool bf, .slice af kf cf] 26)
          replace xa := xa.on hb; replace xb := xb.on hb; replace xe := xe.on hb; replace la := la.on hb; replace hZ := hZ.trans (hb.mono hZ.size); replace g1 := g1.on hb; replace g2 := g2.on hb; replace hB := hB.trans (hb.mono hB.size); clear hb
          obtain ⟨ws1, hws1⟩ : ∃ W, W = (w12.alloc (.cells #[.bool bf, .slice af kf cf] 26)) := ⟨_, rfl⟩
          rw [← hws1] at hB xa xb xe xf la hZ g1 g2 ⊢
          clear hws1
          refine (HA3.out _ hZ).mono ?_
          rintro e w13 ⟨⟨v, c3, rfl, g3⟩, hb⟩
          obtain ⟨bg, ag, kg, cg, rfl⟩ := g3.opened
          replace xa := xa.on hb; replace xb := xb.on hb; replace xe := xe.on hb; replace xf := xf.on hb; replace la := la.on hb; replace hZ := hZ.trans (hb.mono hZ.size); replace g1 := g1.on hb; replace g2 := g2.on hb
          have hz13 := hb.size
          try simp at hz13
          replace hB := hB.trans (hb.mono hB.size); clear hb
          have pa := xa.all2
          have pb := xb.all2
          have pe := xe.all2
          have pf := xf.all2
          have lta := xa.lt
          have ltb := xb.lt
          have lte := xe.lt
          have ltf := xf.lt
          go_wp2_with fail
          clear lta ltb lte ltf pa pb pe pf
          have hb := ((Below.refl w13.heap.size w13).alloc (Nat.le_refl _) (.cells #[.bool bg, .slice ag kg cg] 26))
          have xg : Bk _ w13.heap.size #[.bool bg, .slice ag kg cg] 26 := (Bk.new w13 #[.bool bg, .slice ag kg cg] 26)
          replace xa := xa.on hb; replace xb := xb.on hb; replace xe := xe.on hb; replace xf := xf.on hb; replace la := la.on hb; replace hZ := hZ.trans (hb.mono hZ.size); replace g1 := g1.on hb; replace g2 := g2.on hb; replace g3 := g3.on hb; replace hB := hB.trans (hb.mono hB.size); clear hb
          obtain ⟨ws2, hws2⟩ : ∃ W, W = (w13.alloc (.cells #[.bool bg, .slice ag kg cg] 26)) := ⟨_, rfl⟩
          rw [← hws2] at hB xa xb xe xf xg la hZ g1 g2 g3 ⊢
          clear hws2
          refine (HR1.out _ hZ).mono ?_
          rintro e w14 ⟨⟨v, c4, rfl, g4⟩, hb⟩
          obtain ⟨bh, ah, kh, ch, rfl⟩ := g4.opened
          replace xa := xa.on hb; replace xb := xb.on hb; replace xe := xe.on hb; replace xf := xf.on hb; replace xg := xg.on hb; replace la := la.on hb; replace hZ := hZ.trans (hb.mono hZ.size); replace g1 := g1.on hb; replace g2 := g2.on hb; replace g3 := g3.on hb
          have hz14 := hb.size
          try simp at hz14
          replace hB := hB.trans (hb.mono hB.size); clear hb
          have pa := xa.all2
          have pb := xb.all2
          have pe := xe.all2
          have pf := xf.all2
          have pg := xg.all2
          have lta := xa.lt
          have ltb := xb.lt
          have lte := xe.lt
          have ltf := xf.lt
          have ltg := xg.lt
          go_wp2_with fail
          clear lta ltb lte ltf ltg pa pb pe pf pg
          have hb := ((Below.refl w14.heap.size w14).alloc (Nat.le_refl _) (.cells #[.bool bh, .slice ah kh ch] 26))
          have xh : Bk _ w14.heap.size #[.bool bh, .slice ah kh ch] 26 := (Bk.new w14 #[.bool bh, .slice ah kh ch] 26)
          replace xa := xa.on hb; replace xb := xb.on hb; replace xe := xe.on hb; replace xf := xf.on hb; replace xg := xg.on hb; replace la := la.on hb; replace hZ := hZ.trans (hb.mono hZ.size); replace g1 := g1.on hb; replace g2 := g2.on hb; replace g3 := g3.on hb; replace g4 := g4.on hb; replace hB := hB.trans (hb.mono hB.size); clear hb
          obtain ⟨ws3, hws3⟩ : ∃ W, W = (w14.alloc (.cells #[.bool bh, .slice ah kh ch] 26)) := ⟨_, rfl⟩
          rw [← hws3] at hB xa xb xe xf xg xh la hZ g1 g2 g3 g4 ⊢
          clear hws3
          refine (HR2.out _ hZ).mono ?_
          rintro e w15 ⟨⟨v, c5, rfl, g5⟩, hb⟩
          obtain ⟨bo, ao, ko, co, rfl⟩ := g5.opened
          replace xa := xa.on hb; replace xb := xb.on hb; replace xe := xe.on hb; replace xf := xf.on hb; replace xg := xg.on hb; replace xh := xh.on hb; replace la := la.on hb; replace hZ := hZ.trans (hb.mono hZ.size); replace g1 := g1.on hb; replace g2 := g2.on hb; replace g3 := g3.on hb; replace g4 := g4.on hb
          have hz15 := hb.size
          try simp at hz15
          replace hB := hB.trans (hb.mono hB.size); clear hb
          have pa := xa.all2
          have pb := xb.all2
          have pe := xe.all2
          have pf := xf.all2
          have pg := xg.all2
          have ph := xh.all2
          have lta := xa.lt
          have ltb := xb.lt
          have lte := xe.lt
          have ltf := xf.lt
          have ltg := xg.lt
          have lth := xh.lt
          go_wp2_with fail
          clear lta ltb lte ltf ltg lth pa pb pe pf pg ph
          have hb := ((Below.refl w15.heap.size w15).alloc (Nat.le_refl _) (.cells #[.bool bo, .slice ao ko co] 26))
          have xo : Bk _ w15.heap.size #[.bool bo, .slice ao ko co] 26 := (Bk.new w15 #[.bool bo, .slice ao ko co] 26)
          replace xa := xa.on hb; replace xb := xb.on hb; replace xe := xe.on hb; replace xf := xf.on hb; replace xg := xg.on hb; replace xh := xh.on hb; replace la := la.on hb; replace hZ := hZ.trans (hb.mono hZ.size); replace g1 := g1.on hb; replace g2 := g2.on hb; replace g3 := g3.on hb; replace g4 := g4.on hb; replace g5 := g5.on hb; replace hB := hB.trans (hb.mono hB.size); clear hb
          obtain ⟨ws4, hws4⟩ : ∃ W, W = (w15.alloc (.cells #[.bool bo, .slice ao ko co] 26)) := ⟨_, rfl⟩
          rw [← hws4] at hB xa xb xe xf xg xh xo la hZ g1 g2 g3 g4 g5 ⊢
          clear hws4
          refine (HR3.out _ hZ).mono ?_
          rintro e w16 ⟨⟨v, c6, rfl, g6⟩, hb⟩
          obtain ⟨bv, av, kv, cv, rfl⟩ := g6.opened
          replace xa := xa.on hb; replace xb := xb.on hb; replace xe := xe.on hb; replace xf := xf.on hb; replace xg := xg.on hb; replace xh := xh.on hb; replace xo := xo.on hb; replace la := la.on hb; replace hZ := hZ.trans (hb.mono hZ.size); replace g1 := g1.on hb; replace g2 := g2.on hb; replace g3 := g3.on hb; replace g4 := g4.on hb; replace g5 := g5.on hb
          have hz16 := hb.size
          try simp at hz16
          replace hB := hB.trans (hb.mono hB.size); clear hb
          have pa := xa.all2
          have pb := xb.all2
          have pe := xe.all2
          have pf := xf.all2
          have pg := xg.all2
          have ph := xh.all2
          have po := xo.all2
          have lta := xa.lt
          have ltb := xb.lt
          have lte := xe.lt
          have ltf := xf.lt
          have ltg := xg.lt
          have lth := xh.lt
          have lto := xo.lt
          go_wp2_with fail
          clear lta ltb lte ltf ltg lth lto pa pb pe pf pg ph po
          have hb := ((Below.refl w16.heap.size w16).alloc (Nat.le_refl _) (.cells #[.bool bv, .slice av kv cv] 26))
          have xv : Bk _ w16.heap.size #[.bool bv, .slice av kv cv] 26 := (Bk.new w16 #[.bool bv, .slice av kv cv] 26)
          replace xa := xa.on hb; replace xb := xb.on hb; replace xe := xe.on hb; replace xf := xf.on hb; replace xg := xg.on hb; replace xh := xh.on hb; replace xo := xo.on hb; replace la := la.on hb; replace hZ := hZ.trans (hb.mono hZ.size); replace g1 := g1.on hb; replace g2 := g2.on hb; replace g3 := g3.on hb; replace g4 := g4.on hb; replace g5 := g5.on hb; replace g6 := g6.on hb; replace hB := hB.trans (hb.mono hB.size); clear hb
          obtain ⟨ws5, hws5⟩ : ∃ W, W = (w16.alloc (.cells #[.bool bv, .slice av kv cv] 26)) := ⟨_, rfl⟩
          rw [← hws5] at hB xa xb xe xf xg xh xo xv la hZ g1 g2 g3 g4 g5 g6 ⊢
          clear hws5 HA1 HA2 HA3 HR1 HR2 HR3
          rcases Nat.lt_or_ge 1024 (1000 + N) with hq | hq
          · skip
            have hq1 : ¬ 1000 + (N : Int) ≤ 1024 := by omega
            rw [decide_eq_false (by omega)] at hvl
            have HV := fun W (h : Lim W (.slice aa (1000 + N) ca) l) => Valid_any neg _ l W h
            rw [hvl] at HV
            replace HV := Lib.hid HV
            have HT := Lib.hid (fun W (h : Lim W (.slice aa (1000 + N) ca) l) => Text_bad neg _ l W h hvl)
            clear hvl HLm hlen hq
            refine (HS.out _ _ _ _ _ _ _ g1 g4).mono ?_
            rintro e w17 ⟨rfl, hb⟩
            replace xa := xa.on hb; replace xb := xb.on hb; replace xe := xe.on hb; replace xf := xf.on hb; replace xg := xg.on hb; replace xh := xh.on hb; replace xo := xo.on hb; replace xv := xv.on hb; replace la := la.on hb; replace hZ := hZ.trans (hb.mono hZ.size); replace g1 := g1.on hb; replace g2 := g2.on hb; replace g3 := g3.on hb; replace g4 := g4.on hb; replace g5 := g5.on hb; replace g6 := g6.on hb
            have hz17 := hb.size
            try simp at hz17
            replace hB := hB.trans (hb.mono hB.size); clear hb g1 g4 xe xh
            have pa := xa.all2
            have pb := xb.all2
            have pf := xf.all2
            have pg := xg.all2
            have po := xo.all2
            have pv := xv.all2
            have lta := xa.lt
            have ltb := xb.lt
            have ltf := xf.lt
            have ltg := xg.lt
            have lto := xo.lt
            have ltv := xv.lt
            go_wp2_with fail
            clear lta ltb ltf ltg lto ltv pa pb pf pg po pv
            refine (HS.out _ _ _ _ _ _ _ g2 g5).mono ?_
            rintro e w18 ⟨rfl, hb⟩
            replace xa := xa.on hb; replace xb := xb.on hb; replace xf := xf.on hb; replace xg := xg.on hb; replace xo := xo.on hb; replace xv := xv.on hb; replace la := la.on hb; replace hZ := hZ.trans (hb.mono hZ.size); replace g2 := g2.on hb; replace g3 := g3.on hb; replace g5 := g5.on hb; replace g6 := g6.on hb
            have hz18 := hb.size
            try simp at hz18
            replace hB := hB.trans (hb.mono hB.size); clear hb g2 g5 xf xo
            have pa := xa.all2
            have pb := xb.all2
            have pg := xg.all2
            have pv := xv.all2
            have lta := xa.lt
            have ltb := xb.lt
            have ltg := xg.lt
            have ltv := xv.lt
            go_wp2_with fail
            clear lta ltb ltg ltv pa pb pg pv
            refine (HS.out _ _ _ _ _ _ _ g3 g6).mono ?_
            rintro e w19 ⟨rfl, hb⟩
            replace xa := xa.on hb; replace xb := xb.on hb; replace xg := xg.on hb; replace xv := xv.on hb; replace la := la.on hb; replace hZ := hZ.trans (hb.mono hZ.size); replace g3 := g3.on hb; replace g6 := g6.on hb
            have hz19 := hb.size
            try simp at hz19
            replace hB := hB.trans (hb.mono hB.size); clear hb g3 g6 xg xv
            have pa := xa.all2
            have pb := xb.all2
            have lta := xa.lt
            have ltb := xb.lt
            go_wp2_with fail
            clear lta ltb pa pb
            refine (HV.out _ la).mono ?_
            rintro e w20 ⟨rfl, hb⟩
            replace xa := xa.on hb; replace xb := xb.on hb; replace la := la.on hb; replace hZ := hZ.trans (hb.mono hZ.size)
            have hz20 := hb.size
            try simp at hz20
            replace hB := hB.trans (hb.mono hB.size); clear hb
            have pa := xa.all2
            have pb := xb.all2
            have lta := xa.lt
            have ltb := xb.lt
            go_wp2_with fail
            clear lta ltb pa pb
            refine (HT.out _ la).mono ?_
            rintro e w21 ⟨rfl, hb⟩
            replace xa := xa.on hb; replace xb := xb.on hb; replace la := la.on hb; replace hZ := hZ.trans (hb.mono hZ.size)
            have hz21 := hb.size
            try simp at hz21
            replace hB := hB.trans (hb.mono hB.size); clear hb
            have pa := xa.all2
            have pb := xb.all2
            have lta := xa.lt
            have ltb := xb.lt
            go_wp2_with fail
            clear lta ltb pa pb
            refine (HV.out _ la).mono ?_
            rintro e w22 ⟨rfl, hb⟩
            replace xa := xa.on hb; replace xb := xb.on hb; replace la := la.on hb; replace hZ := hZ.trans (hb.mono hZ.size)
            have hz22 := hb.size
            try simp at hz22
            replace hB := hB.trans (hb.mono hB.size); clear hb
            have pa := xa.all2
            have pb := xb.all2
            have lta := xa.lt
            have ltb := xb.lt
            go_wp2_with fail
            clear lta ltb pa pb
            refine (awake_any _).mono ?_
            rintro e w99 ⟨rfl, hb⟩
            go_wp2
            go_ret
            exact ⟨rfl, hB.trans (hb.mono hB.size)⟩
          · skip
            have hq1 : 1000 + (N : Int) ≤ 1024 := by omega
            rw [decide_eq_true hq] at hvl
            have HV := fun W (h : Lim W (.slice aa (1000 + N) ca) l) => Valid_any neg _ l W h
            rw [hvl] at HV
            replace HV := Lib.hid HV
            obtain ⟨z, -, elz, na⟩ := num_of_vld hvl la HLm.out
            rw [elz] at hlen
            have hz1 : (dig z.natAbs).length ≤ 1024 := by omega
            have hz2 := wl_over (z := z) (by omega)
            have hz3 := wl_len hz1
            have hz0 : z ≠ 0 := fun e => by subst e; rw [show (0 : Int).natAbs = 0 from rfl, dig_zero] at hlen; simp at hlen; omega
            obtain ⟨S, hS⟩ : ∃ S : ByteArray, S.data.toList = txt z := ⟨⟨(txt z).toArray⟩, by simp⟩
            have HT := Lib.hid (fun v W (h : Num W v z) => Text_known v z S hS hz1 W h)
            have HPk := Lib.hid (fun W => Parse_back S z hS (by rw [hS]; omega) hz1 W)
            have HPo := Lib.hid (fun (b : ByteArray) (hb : b.data.toList = txt (z * 10 ^ 200)) (hs : b.size ≤ 5200) W => Parse_over b (z * 10 ^ 200) hb (by unfold maxLen; omega) hz2 W)
            have hSs : S.size ≤ 4934 := by rw [← ByteArray.size_data, ← Array.length_toList, hS]; exact hz3
            have HZ := Lib.hid (And.intro hz0 (And.intro hS hSs))
            clear hvl HLm hlen hq elz hz1 hz2 hz3 hz0 hS hSs
            refine (HS.out _ _ _ _ _ _ _ g1 g4).mono ?_
            rintro e w17 ⟨rfl, hb⟩
            replace xa := xa.on hb; replace xb := xb.on hb; replace xe := xe.on hb; replace xf := xf.on hb; replace xg := xg.on hb; replace xh := xh.on hb; replace xo := xo.on hb; replace xv := xv.on hb; replace la := la.on hb; replace hZ := hZ.trans (hb.mono hZ.size); replace g1 := g1.on hb; replace g2 := g2.on hb; replace g3 := g3.on hb; replace g4 := g4.on hb; replace g5 := g5.on hb; replace g6 := g6.on hb; replace na := na.on hb
            have hz17 := hb.size
            try simp at hz17
            replace hB := hB.trans (hb.mono hB.size); clear hb g1 g4 xe xh
            have pa := xa.all2
            have pb := xb.all2
            have pf := xf.all2
            have pg := xg.all2
            have po := xo.all2
            have pv := xv.all2
            have lta := xa.lt
            have ltb := xb.lt
            have ltf := xf.lt
            have ltg := xg.lt
            have lto := xo.lt
            have ltv := xv.lt
            go_wp2_with fail
            clear lta ltb ltf ltg lto ltv pa pb pf pg po pv
            refine (HS.out _ _ _ _ _ _ _ g2 g5).mono ?_
            rintro e w18 ⟨rfl, hb⟩
            replace xa := xa.on hb; replace xb := xb.on hb; replace xf := xf.on hb; replace xg := xg.on hb; replace xo := xo.on hb; replace xv := xv.on hb; replace la := la.on hb; replace hZ := hZ.trans (hb.mono hZ.size); replace g2 := g2.on hb; replace g3 := g3.on hb; replace g5 := g5.on hb; replace g6 := g6.on hb; replace na := na.on hb
            have hz18 := hb.size
            try simp at hz18
            replace hB := hB.trans (hb.mono hB.size); clear hb g2 g5 xf xo
            have pa := xa.all2
            have pb := xb.all2
            have pg := xg.all2
            have pv := xv.all2
            have lta := xa.lt
            have ltb := xb.lt
            have ltg := xg.lt
            have ltv := xv.lt
            go_wp2_with fail
            clear lta ltb ltg ltv pa pb pg pv
            refine (HS.out _ _ _ _ _ _ _ g3 g6).mono ?_
            rintro e w19 ⟨rfl, hb⟩
            replace xa := xa.on hb; replace xb := xb.on hb; replace xg := xg.on hb; replace xv := xv.on hb; replace la := la.on hb; replace hZ := hZ.trans (hb.mono hZ.size); replace g3 := g3.on hb; replace g6 := g6.on hb; replace na := na.on hb
            have hz19 := hb.size
            try simp at hz19
            replace hB := hB.trans (hb.mono hB.size); clear hb g3 g6 xg xv
            have pa := xa.all2
            have pb := xb.all2
            have lta := xa.lt
            have ltb := xb.lt
            go_wp2_with fail
            clear lta ltb pa pb
            refine (HV.out _ la).mono ?_
            rintro e w20 ⟨rfl, hb⟩
            replace xa := xa.on hb; replace xb := xb.on hb; replace la := la.on hb; replace hZ := hZ.trans (hb.mono hZ.size); replace na := na.on hb
            have hz20 := hb.size
            try simp at hz20
            replace hB := hB.trans (hb.mono hB.size); clear hb
            have pa := xa.all2
            have pb := xb.all2
            have lta := xa.lt
            have ltb := xb.lt
            go_wp2_with fail
            clear lta ltb pa pb
            refine (HT.out _ _ na).mono ?_
            rintro e w21 ⟨rfl, hb⟩
            replace xa := xa.on hb; replace xb := xb.on hb; replace la := la.on hb; replace hZ := hZ.trans (hb.mono hZ.size); replace na := na.on hb
            have hz21 := hb.size
            try simp at hz21
            replace hB := hB.trans (hb.mono hB.size); clear hb
            have pa := xa.all2
            have pb := xb.all2
            have lta := xa.lt
            have ltb := xb.lt
            go_wp2_with fail
            clear lta ltb pa pb
            refine (HV.out _ la).mono ?_
            rintro e w22 ⟨rfl, hb⟩
            replace xa := xa.on hb; replace xb := xb.on hb; replace la := la.on hb; replace hZ := hZ.trans (hb.mono hZ.size); replace na := na.on hb
            have hz22 := hb.size
            try simp at hz22
            replace hB := hB.trans (hb.mono hB.size); clear hb
            have pa := xa.all2
            have pb := xb.all2
            have lta := xa.lt
            have ltb := xb.lt
            go_wp2_with fail
            clear lta ltb pa pb la HV HT
            refine (HPk.out _).mono ?_
            rintro e w23 ⟨⟨bp, ap, kp, cp, rfl, np⟩, hb⟩
            replace xa := xa.on hb; replace xb := xb.on hb; replace hZ := hZ.trans (hb.mono hZ.size); replace na := na.on hb
            have hz23 := hb.size
            try simp at hz23
            replace hB := hB.trans (hb.mono hB.size); clear hb
            have pa := xa.all2
            have pb := xb.all2
            have lta := xa.lt
            have ltb := xb.lt
            go_wp2_with fail
            clear lta ltb pa pb
            have hb := ((Below.refl w23.heap.size w23).alloc (Nat.le_refl _) (.cells #[.bool bp, .slice ap kp cp] 26))
            have xp : Bk _ w23.heap.size #[.bool bp, .slice ap kp cp] 26 := (Bk.new w23 #[.bool bp, .slice ap kp cp] 26)
            replace xa := xa.on hb; replace xb := xb.on hb; replace hZ := hZ.trans (hb.mono hZ.size); replace na := na.on hb; replace np := np.on hb; replace hB := hB.trans (hb.mono hB.size); clear hb
            obtain ⟨wp, hwp⟩ : ∃ W, W = (w23.alloc (.cells #[.bool bp, .slice ap kp cp] 26)) := ⟨_, rfl⟩
            rw [← hwp] at hB xa xb xp hZ na np ⊢
            clear hwp HPk hZ
            go_loopw [25, 29] (fun s i wr => WlS z s i ∧ wr = wp) (fun _ i _ => (200 - intOf i).toNat)
            case atStart => exact ⟨⟨0, S, Nat.zero_le _, rfl, by have := HZ.out.2.1; simpa using this, HZ.out.2.2, rfl⟩, rfl⟩
            case round =>
              obtain ⟨⟨j, b, hj, rfl, hb1, hb2, rfl⟩, rfl⟩ := hrel
              rcases Nat.lt_or_ge j 200 with hjn | hjn
              · skip
                have hj1 : (j : Int) < 200 := by omega
                have HB1 := Lib.hid hb1
                clear hb1
                go_wp2_with fail
                go_roundw
                case rel => exact ⟨⟨j + 1, _, hjn, rfl, wls_more HZ.out.1 HB1.out, by rw [wls_size]; omega, by go_num⟩, by trivial⟩
                case measure => simp [intOf]; omega
              · skip
                have hj1 : ¬ (j : Int) < 200 := by omega
                obtain rfl : j = 200 := by omega
                have HPo1 := Lib.hid (fun W => HPo.out b hb1 (by omega) W)
                clear hb1 hb2 hj hjn HPo
                have pa := xa.all2
                have pb := xb.all2
                have pp := xp.all2
                have lta := xa.lt
                have ltb := xb.lt
                have ltp := xp.lt
                go_wp2_with fail
                clear lta ltb ltp pa pb pp
                refine (HPo1.out _).mono ?_
                rintro e w24 ⟨rfl, hb⟩
                replace xa := xa.on hb; replace xb := xb.on hb; replace xp := xp.on hb; replace na := na.on hb; replace np := np.on hb
                have hz24 := hb.size
                try simp at hz24
                replace hB := hB.trans (hb.mono hB.size); clear hb
                have pa := xa.all2
                have pb := xb.all2
                have pp := xp.all2
                have lta := xa.lt
                have ltb := xb.lt
                have ltp := xp.lt
                go_wp2_with fail
                clear lta ltb ltp pa pb pp
                have hb := ((Below.refl w24.heap.size w24).alloc (Nat.le_refl _) (.cells #[.bool false, .slice none 0 0] 26))
                have xy : Bk _ w24.heap.size #[.bool false, .slice none 0 0] 26 := (Bk.new w24 #[.bool false, .slice none 0 0] 26)
                replace xa := xa.on hb; replace xb := xb.on hb; replace xp := xp.on hb; replace na := na.on hb; replace np := np.on hb; replace hB := hB.trans (hb.mono hB.size); clear hb
                obtain ⟨wy, hwy⟩ : ∃ W, W = (w24.alloc (.cells #[.bool false, .slice none 0 0] 26)) := ⟨_, rfl⟩
                rw [← hwy] at hB xa xb xp xy na np ⊢
                clear hwy
                refine (HS.out _ _ (some z) 0 _ _ _ (.inl ⟨z, rfl, rfl, np⟩) (.inl ⟨z, rfl, rfl, na⟩)).mono ?_
                rintro e w25 ⟨rfl, hb⟩
                replace xa := xa.on hb; replace xb := xb.on hb; replace xp := xp.on hb; replace xy := xy.on hb; replace na := na.on hb; replace np := np.on hb
                have hz25 := hb.size
                try simp at hz25
                replace hB := hB.trans (hb.mono hB.size); clear hb
                have pa := xa.all2
                have pb := xb.all2
                have pp := xp.all2
                have py := xy.all2
                have lta := xa.lt
                have ltb := xb.lt
                have ltp := xp.lt
                have lty := xy.lt
                go_wp2_with fail
                clear lta ltb ltp lty pa pb pp py
                refine (awake_any _).mono ?_
                rintro e w99 ⟨rfl, hb⟩
                go_wp2
                go_ret
                exact ⟨rfl, hB.trans (hb.mono hB.size)⟩
end Go.Proofs.Ytmbcnfogjncdaaa
