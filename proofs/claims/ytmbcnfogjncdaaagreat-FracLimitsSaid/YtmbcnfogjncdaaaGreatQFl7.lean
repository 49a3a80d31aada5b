/- A part of the proofs about fractions. -/
import Derived.Test.YtmbcnfogjncdaaaGreatQFl6
set_option maxRecDepth 100000
set_option maxHeartbeats 4000000
namespace Go.Proofs.YtmbcnfogjncdaaaGreat
open Go.RowKit Go.Shelf Wh
attribute [local go_sem] Oper.semAt_some
theorem divide_long (sa sb : Value) (m n K : Nat) (hmn : n ≤ m) (hK : (dig n).length = K + 2) (hK2 : 2 ≤ K) (hm : (dig m).length ≤ 16384) (w : World) (h : Lim w sa (dig m)) (g : Lim w sb (dig n)) :
    CallsIn Fence.wide 5 Tryz.prog 130 #[sa, sb] w fun e w' => (∃ vq vr, e = .returned (.tuple #[vq, vr]) ∧ LimF w.heap.size w' vq (dig (m / n)) ∧ LimF w.heap.size w' vr (dig (m % n))) ∧ Below w.heap.size w w' := by
  have hn0 : n ≠ 0 := by rintro rfl; rw [dig_zero] at hK; simp at hK
  have hcmp : 0 ≤ cmpL (dig m) (dig n) ∧ cmpL (dig m) (dig n) ≤ 1 := by
    rw [cmp_dig]; unfold cmpN
    rw [if_neg (by omega)]
    split <;> omega
  obtain ⟨cm, hcm⟩ : ∃ cm, cm = cmpL (dig m) (dig n) := ⟨_, rfl⟩
  rw [← hcm] at hcmp
  obtain ⟨cm1, cm2⟩ := hcmp
  have hLa : K + 2 ≤ (dig m).length := by rw [← hK]; exact length_dig_mono hmn
  obtain ⟨a, cap, rfl, -⟩ := id h
  obtain ⟨b, capb, rfl, -⟩ := id g
  rw [hK] at g ⊢
  have hw1 := fun W (hW : Below w.heap.size w W) => (compare_any _ _ _ _ (dig_Lm m) (dig_Lm n) W (h.below hW (Nat.le_refl _)) (g.below hW (Nat.le_refl _)))
  rw [← hcm] at hw1
  have hw2 := fun W (hW : Below w.heap.size w W) => (normalizer_any _ _ (dig_Lm n) (fun e => hn0 ((dig_nil_iff n).1 e)) (dig_last_ne hn0) W (g.below hW (Nat.le_refl _)))
  rw [hK] at hw2
  have HW1 := Lib.hid hw1
  have HW2 := Lib.hid hw2
  have HG := Lib.hid g
  have HH := Lib.hid h
  clear hw1 hw2 hcm g h
  obtain ⟨La, hLae⟩ : ∃ La, La = (dig m).length := ⟨_, rfl⟩
  have HLA := Lib.hid hLae
  rw [← hLae] at hm hLa ⊢
  rw [← hLae] at HW1
  clear hLae
  have b1 : Below w.heap.size w (((w.alloc (.cells #[.slice b (K + 2) capb] 22)).alloc (.cells #[.slice none 0 0] 22)).alloc (.cells #[.slice none 0 0] 22)) :=
    (((Below.refl _ w).alloc (Nat.le_refl _) _).alloc (by simp) _).alloc (by simp; omega) _
  have bB := ((Boxed.new w 22 (.slice b (K + 2) capb)).alloc (.cells #[.slice none 0 0] 22)).alloc (.cells #[.slice none 0 0] 22)
  have bQ := (Boxed.new (w.alloc (.cells #[.slice b (K + 2) capb] 22)) 22 (.slice none 0 0)).alloc (.cells #[.slice none 0 0] 22)
  have bR := Boxed.new ((w.alloc (.cells #[.slice b (K + 2) capb] 22)).alloc (.cells #[.slice none 0 0] 22)) 22 (.slice none 0 0)
  rw [World.size_alloc] at bQ
  rw [World.size_alloc, World.size_alloc] at bR
  have HB := Lib.hid b1
  clear b1
  refine callsIn_of_wp_marks Tryz.func130 rfl trivial ?_ rfl
  simp only [Tryz.ntmps130, List.size_toArray, List.length_cons, List.length_nil, Nat.reduceAdd, Nat.reduceSub, Array.replicate_succ, Array.replicate_zero, List.push_toArray, List.append_toArray, List.nil_append, List.cons_append]
  gi_wp2_with (first
    | (refine ⟨trivial, ?_⟩; gi_at_call 142; refine (callsIn_wide.2 (HW1.out _ HB.out)).mono ?_; rintro e w1 ⟨rfl, hb1⟩; have bB1 := Boxed.below bB hb1; have cB1 := bB1.cell; have bQ1 := Boxed.below bQ hb1; have bR1 := Boxed.below bR hb1; have hB1 := HB.out.trans (hb1.mono HB.out.size))
    | (refine ⟨trivial, ?_⟩; gi_at_call 165; refine (callsIn_wide.2 (HW2.out _ hB1)).mono ?_; rintro e w2 ⟨⟨f, rfl, ⟨hf1, hfj⟩, hf2, hf3, hf4⟩, rfl⟩))
  rw [show K + 2 - 1 = K + 1 from by omega] at hf3 hf4
  obtain ⟨j, hj⟩ := hfj
  obtain ⟨hnf, hnl⟩ := scaled (n := n) (j := j) (L := K + 1) hK (by rw [← hj]; exact hf4) (by rw [← hj]; exact hf3)
  rw [← hj] at hnf hnl
  rw [show K + 1 + 1 = K + 2 from by omega] at hnf hnl
  have hsc := scale_any (.slice b (K + 2) capb) (dig n) (dig_Lm n) (by omega) f (by omega) w1 (HG.out.below hB1 (Nat.le_refl _))
  rw [val_dig] at hsc
  have HNF := Lib.hid hnf
  have HNL := Lib.hid hnl
  have HJ := Lib.hid hj
  clear hf3 hf4 hj hnf hnl
  have HSC := Lib.hid hsc
  clear hsc
  refine ⟨trivial, ?_⟩
  refine (callsIn_wide.2 HSC.out).mono ?_
  rintro e w2 ⟨⟨vs, rfl, hls⟩, hb2⟩
  have hne : dig (n * f) ≠ [] := fun e => by have := HNL.out; rw [e] at this; simp at this
  obtain ⟨gs, caps, curs, Ts, rfl, hgs, hhs, hcs⟩ := hls.some hne
  rw [HNL.out] at hls ⊢
  have bQ2 := Boxed.below bQ1 hb2
  have bR2 := Boxed.below bR1 hb2
  have bB2 := Boxed.below bB1 hb2
  have hB2 := hB1.trans (hb2.mono hB1.size)
  have hs1 : w.heap.size + 1 + 1 + 1 ≤ w1.heap.size := by have := hb1.size; simp at this; omega
  have hs2 := hb2.size
  have hgs2 : gs < w2.heap.size := (Array.getElem?_eq_some_iff.1 hhs).1
  have bS3 := Boxed.new w2 22 (.slice (some ⟨gs, 0, none⟩) (K + 2) caps)
  have bQ3 := bQ2.alloc (.cells #[.slice (some ⟨gs, 0, none⟩) (K + 2) caps] 22)
  have bR3 := bR2.alloc (.cells #[.slice (some ⟨gs, 0, none⟩) (K + 2) caps] 22)
  have bB3 := bB2.alloc (.cells #[.slice (some ⟨gs, 0, none⟩) (K + 2) caps] 22)
  have hB3 := hB2.alloc (by omega) (.cells #[.slice (some ⟨gs, 0, none⟩) (K + 2) caps] 22)
  have hls3 : LimF w1.heap.size (w2.alloc (.cells #[.slice (some ⟨gs, 0, none⟩) (K + 2) caps] 22)) (.slice (some ⟨gs, 0, none⟩) (K + 2) caps) (dig (n * f)) := hls.below ((Below.refl _ _).alloc (Nat.le_refl _) _)
  obtain ⟨i0, hi, hz0, hz1, hz2⟩ := info_parts Tryz.infoU
  gi_wp2_with (first
    | (gi_at_make; refine make_in _ rfl (.tmp 37) (.tmp 37) 22 rfl (w2.heap.size + 1) 59 i0 (.int .u16 0) Tryz.underlying22 hi hz0 hz1 (La + 1) _ rfl rfl (by omega) (by rw [hz2]; omega) (by unfold maxLen; omega) (by simp) ?_; intro w4 hown4 hgrow4; rw [World.size_alloc] at hown4; rw [made_zero] at hown4; have bR4 := bR3.kept hgrow4 (by simp); have cR4 := bR4.cell; have fR4 := bR4.frozen))
  have g5 := grownBy_setCell' w4 (w.heap.size + 1 + 1) (.slice (some ⟨w2.heap.size + 1, 0, none⟩) (La + 1) (La + 1))
  have hs4 := hgrow4.size
  rw [World.size_alloc] at hs4
  have bQ5 := (bQ3.kept hgrow4 (by simp)).kept g5 (by simp <;> omega)
  have bR5 := bR4.set (.slice (some ⟨w2.heap.size + 1, 0, none⟩) (La + 1) (La + 1))
  have bB5 := (bB3.kept hgrow4 (by simp)).kept g5 (by simp <;> omega)
  have bS5 := (bS3.kept hgrow4 (by simp)).kept g5 (by simp <;> omega)
  have hB5 := (hB3.grown hgrow4 (by simp; omega) (fun k e => by cases e)).setCell (p := ⟨w.heap.size + 1 + 1, 0, none⟩) (by simp; omega) (.slice (some ⟨w2.heap.size + 1, 0, none⟩) (La + 1) (La + 1))
  have hls5 := (hls3.kept hgrow4 (fun r e => by cases e)).kept g5 (fun r e => hls3.2.own r (by cases e; omega))
  have hrow5 := hown4.kept g5 (.inr (by simp [Value.ownBlock] <;> omega))
  have hs5 : (w4.setCell ⟨w.heap.size + 1 + 1, 0, none⟩ (.slice (some ⟨w2.heap.size + 1, 0, none⟩) (La + 1) (La + 1))).heap.size = w4.heap.size := by simp [World.setCell]
  have hG5 := (hown4.lt _ rfl).2
  rw [← hs5] at hs4 hG5
  generalize w4.setCell ⟨w.heap.size + 1 + 1, 0, none⟩ (.slice (some ⟨w2.heap.size + 1, 0, none⟩) (La + 1) (La + 1)) = w5 at *
  clear hown4 hgrow4 bR4 cR4 fR4 g5 bQ3 bR3 bB3 bS3 hB3 hls3 hs5 bQ2 bR2 bB2 hB2 hls hhs hcs hb2 bQ1 bR1 bB1 cB1 hB1 hb1 HB bB bQ bR
  generalize hS : w2.heap.size = S at *
  have hmf : dig (m * f) ≠ [] := fun e => by
    have := (dig_nil_iff _).1 e
    rcases Nat.mul_eq_zero.1 this with h | h <;> omega
  have hmfl : (dig (m * f)).length ≤ La + 1 := by
    rw [length_dig_le]
    have h1 : m < 65536 ^ La := by rw [HLA.out]; exact lt_pow_length m
    have h2 : m * f ≤ m * 65536 := Nat.mul_le_mul_left _ (by omega)
    have h3 : (65536 : Nat) ^ (La + 1) = 65536 ^ La * 65536 := Nat.pow_succ _ _
    omega
  have hsa : ∀ W, Below w.heap.size w W → Calls Tryz.prog 131 #[.slice a La cap, .slice none 0 0, .int .i64 (f : Int), .int .i64 0] W fun e w' => (∃ v', e = .returned v' ∧ LimF W.heap.size w' v' (dig (m * f))) ∧ Below W.heap.size W w' := fun W hW => by
    have := scale_any (.slice a (dig m).length cap) (dig m) (dig_Lm m) (by rw [← HLA.out]; omega) f (by omega) W (HH.out.below hW (Nat.le_refl _))
    rw [val_dig, ← HLA.out] at this
    exact this
  have HSA := Lib.hid hsa
  clear hsa
  have hB5' := hB5.drew
  have cR5 := bR5.cell
  have hmx : Tryz.prog.follows .mixedOrders = true := by kernel_rfl
  have hdw : DivW (.slice none 0 0) w.heap.size S La K gs caps w1.heap.size (n * f) b capb (List.replicate (La + 1) 0) w w5 := ⟨bB5, bQ5, bR5, bS5, hls5, hrow5, hB5, hG5, hs1, hgs2, hgs⟩
  refine goesOn_via (fun a' w' => ∃ v42 v43, a' = { tmps := #[.slice a La cap, .slice b (K + 2) capb, undef, .pointer (some ⟨w.heap.size, 0, none⟩), .pointer (some ⟨w.heap.size + 1, 0, none⟩), .pointer (some ⟨w.heap.size + 1 + 1, 0, none⟩), undef, undef, .int .i64 (f : Int), .pointer (some ⟨S, 0, none⟩), undef,
      .slice a La cap, .slice b (K + 2) capb, .int .i64 cm, .bool (decide (cm < 0)), undef, undef, .slice b (K + 2) capb, .int .i64 ((K : Int) + 2), .bool (decide ((K : Int) + 2 ≤ 3)), undef, undef, undef, undef, undef, undef, undef, undef, undef, undef, .slice b (K + 2) capb, .int .i64 (f : Int), .slice b (K + 2) capb,
      .int .i64 (f : Int), .slice (some ⟨gs, 0, none⟩) (K + 2) caps, .slice a La cap, .int .i64 (La : Int), .int .i64 ((La : Int) + 1), .slice (some ⟨S + 1, 0, none⟩) (La + 1) (La + 1), .slice (some ⟨S + 1, 0, none⟩) (La + 1) (La + 1), .slice a La cap, .int .i64 (f : Int), v42, v43, undef, undef, undef, undef, undef, undef, undef, undef, undef,
      undef, undef, undef, undef, undef, undef, undef, undef, undef, undef, undef, undef, undef, undef, undef, undef, undef, undef, undef, undef, undef, undef, undef, undef, undef], defers := [] } ∧
      DivW (.slice none 0 0) w.heap.size S La K gs caps w1.heap.size (n * f) b capb (dig (m * f) ++ List.replicate (La + 1 - (dig (m * f)).length) 0) w w') ?reg ?goon
  case reg =>
    have HDW := Lib.hid hdw
    clear hdw
    gi_region_with_o (refine ⟨trivial, ?_⟩; gi_at_call 131; refine (callsIn_wide.2 (HSA.out _ hB5')).mono ?_; rintro e w6 ⟨⟨va, rfl, hla⟩, hb6⟩; obtain ⟨ga, capa, cura, Ta, rfl, hga, hha, hca⟩ := hla.some hmf; obtain ⟨w7, hrun, hrow7, g7⟩ := copy_row (ownsRow_below hrow5 (by exact ⟨hb6.os, hb6.tape, hb6.output, hb6.size, hb6.block⟩)) hla.1 hmf hmfl; have cR6 := (hb6.cell (p := ⟨w.heap.size + 1 + 1, 0, none⟩) (by simp; omega)).trans cR5)
    all_goals
      exact ⟨_, _, rfl, (HDW.out.below ⟨hb6.os, hb6.tape, hb6.output, hb6.size, hb6.block⟩).moved g7 hrow7⟩
  case goon =>
    rintro a' W7 ⟨v42, v43, rfl, hdw⟩
    dsimp only
    have bQ7 := hdw.bQ
    have cQ7 := bQ7.cell
    have fQ7 := bQ7.frozen
    have cB7 := hdw.bB.cell
    have n1 := hdw.hN
    have n2 := hdw.hS
    have HDW := Lib.hid hdw
    clear HSC HSA hB5' cR5 bQ5 bR5 bB5 bS5 hB5 hls5 hrow5 hs4 hG5 hdw
    obtain ⟨D, hD1, hD2⟩ : ∃ D, La ≤ D + (K + 2) ∧ D + (K + 2) ≤ La := ⟨La - (K + 2), by omega, by omega⟩
    gi_wp2_with (gi_at_make; refine make_in _ rfl (.tmp 49) (.tmp 49) 22 rfl W7.heap.size 59 i0 (.int .u16 0) Tryz.underlying22 hi hz0 hz1 (D + 1) _ rfl rfl (by omega) (by rw [hz2]; omega) (by unfold maxLen; omega) (by simp) ?_; intro w8 hown8 hgrow8; rw [made_zero] at hown8; have bQ8 := bQ7.kept hgrow8 (by simp); have cQ8 := bQ8.cell; have fQ8 := bQ8.frozen)
    refine ⟨trivial, ?_⟩
    refine (down_in Fence.wide 4 trivial rfl _ _ _ _ rfl _).mono ?_
    rintro e W9 ⟨rfl, hW9⟩
    have hdw9 := (((HDW.out.kept hgrow8 (fun r e => by cases e)).setQ (vQ' := .slice (some ⟨W7.heap.size, 0, none⟩) (D + 1) (D + 1))).below ((Below.refl _ _).alloc (Nat.le_refl _) (.cells #[.slice (some ⟨W7.heap.size, 0, none⟩) (D + 1) (D + 1)] 22)))
    rw [hW9] at hdw9
    gi_wp2
    have hG8 : W7.heap.size < w8.heap.size := (hown8.lt _ rfl).2
    have hsz8 : (w8.setCell ⟨w.heap.size + 1, 0, none⟩ (.slice (some ⟨W7.heap.size, 0, none⟩) (D + 1) (D + 1))).heap.size = w8.heap.size := by simp [World.setCell]
    have bN9 := Boxed.new (w8.setCell ⟨w.heap.size + 1, 0, none⟩ (.slice (some ⟨W7.heap.size, 0, none⟩) (D + 1) (D + 1))) 22 (.slice (some ⟨W7.heap.size, 0, none⟩) (D + 1) (D + 1))
    rw [hsz8, hW9] at bN9
    have hsz9 : W9.heap.size = w8.heap.size + 1 := by rw [← hW9, World.size_alloc, hsz8]
    have hq9 := (hown8.kept (grownBy_setCell' w8 (w.heap.size + 1) (.slice (some ⟨W7.heap.size, 0, none⟩) (D + 1) (D + 1))) (.inr (by simp [Value.ownBlock]; omega))).alloc (.cells #[.slice (some ⟨W7.heap.size, 0, none⟩) (D + 1) (D + 1)] 22)
    rw [hW9] at hq9
    have n3 := hdw9.hg
    have n4 := hdw9.hg1
    obtain ⟨Gq, hGq⟩ : ∃ Gq, W7.heap.size = Gq := ⟨_, rfl⟩
    obtain ⟨Bs, hBs⟩ : ∃ Bs, w8.heap.size = Bs := ⟨_, rfl⟩
    rw [hGq] at hdw9 hq9 bN9 hG8 n2 ⊢
    rw [hBs] at bN9 hG8 hsz9 ⊢
    have hval0 : val (dig (m * f) ++ List.replicate (La + 1 - (dig (m * f)).length) 0) = m * f := by rw [val_append, val_dig, val_replicate_zero]; simp
    have hlm0 : Lm (dig (m * f) ++ List.replicate (La + 1 - (dig (m * f)).length) 0) := (dig_Lm _).append (fun x hx => by have := List.eq_of_mem_replicate hx; omega)
    have hd0 : 0 < n * f := Nat.mul_pos (Nat.pos_of_ne_zero hn0) hf1
    have hinv0 : DivInv (m * f) (n * f) (D + 1) (dig (m * f) ++ List.replicate (La + 1 - (dig (m * f)).length) 0) (List.replicate (D + 1) 0) := by
      refine ⟨by rw [hval0, val_replicate_zero]; simp, ?_, fun j hj => by simp [hj]⟩
      rw [hval0]
      have h1 : m < 65536 ^ La := by rw [HLA.out]; exact lt_pow_length m
      have h2 : 65536 ^ (K + 1) ≤ n := pow_le_of_length (by omega)
      have h3 : (65536 : Nat) ^ (K + 1) * 65536 ^ (D + 1) = 65536 ^ La := by rw [← Nat.pow_add]; congr 1; omega
      have h4 := Nat.mul_le_mul_right (65536 ^ (D + 1)) h2
      rw [h3] at h4
      have h5 : n * f * 65536 ^ (D + 1) = n * 65536 ^ (D + 1) * f := Nat.mul_right_comm _ _ _
      rw [h5]
      exact Nat.mul_lt_mul_of_pos_right (by omega) hf1
    have hI0 : LoopI Gq D (m * f) w.heap.size S La K gs caps w1.heap.size (n * f) b capb w [] W9 :=
      ⟨_, List.replicate (D + 1) 0, hlm0, fun x hx => by have := List.eq_of_mem_replicate hx; omega, by simp, hdw9, hq9, fun _ => hinv0⟩
    have hu9 : U16 Gq 0 (D + 1) W9 := fun j hj => ⟨_, by rw [Nat.zero_add, hq9.cellAt j (by omega)]; exact cellsOf_get _ _ (by simp; omega)⟩
    have HI0 := Lib.hid hI0
    have HU9 := Lib.hid hu9
    have HBN := Lib.hid bN9
    have HD0 := Lib.hid hd0
    have HF := Lib.hid hmfl
    clear hI0 hu9 bN9 hinv0 hlm0 hval0 hq9 hdw9 hGq hBs hW9 hown8 hgrow8 bQ8 cQ8 fQ8 bQ7 cQ7 fQ7 cB7 hsz8 HDW hmfl hmf hd0
    refine wpIn_rangeFunc_ownG rfl (by omega) (gf := 169) (lb := #[.pointer (some ⟨Bs, 0, none⟩)]) rfl trivial (enters_of Tryz.func169 (by kernel_rfl) rfl)
      (down2_stops Fence.wide 4 trivial rfl (by omega) Bs Gq 0 (D + 1) (D + 1) (by omega) W9 (by omega) HBN.out.cell (by omega) HU9.out) KpQ.trans (KpQ.putObj (w := W9)) (Below.refl _ _) (fun _ => rfl)
      (LoopI Gq D (m * f) w.heap.size S La K gs caps w1.heap.size (n * f) b capb w)
      (fun _ _ _ => False)
      (loopI_own (by omega) (by omega) (by omega) (by omega))
      (fun _ _ _ _ _ hs _ _ => hs)
      HI0.out
      (fun x => { tmps := #[.slice a La cap, .slice b (K + 2) capb, undef, .pointer (some ⟨w.heap.size, 0, none⟩), .pointer (some ⟨w.heap.size + 1, 0, none⟩), .pointer (some ⟨w.heap.size + 1 + 1, 0, none⟩), undef, undef, .int .i64 (f : Int), .pointer (some ⟨S, 0, none⟩), .int .i64 ((x.1.1 : Nat) : Int),
      .slice a La cap, .slice b (K + 2) capb, .int .i64 cm, .bool (decide (cm < 0)), undef, undef, .slice b (K + 2) capb, .int .i64 ((K : Int) + 2), .bool (decide ((K : Int) + 2 ≤ 3)), undef, undef, undef, undef, undef, undef, undef, undef, undef, undef, .slice b (K + 2) capb, .int .i64 (f : Int), .slice b (K + 2) capb,
      .int .i64 (f : Int), .slice (some ⟨gs, 0, none⟩) (K + 2) caps, .slice a La cap, .int .i64 (La : Int), .int .i64 ((La : Int) + 1), .slice (some ⟨S + 1, 0, none⟩) (La + 1) (La + 1), .slice (some ⟨S + 1, 0, none⟩) (La + 1) (La + 1), .slice a La cap, .int .i64 (f : Int), v42, v43, .slice a La cap, .int .i64 (La : Int), .slice b (K + 2) capb, .int .i64 ((K : Int) + 2),
      .int .i64 ((La : Int) - ((K : Int) + 2)), .int .i64 ((La : Int) - ((K : Int) + 2) + 1), .slice (some ⟨Gq, 0, none⟩) (D + 1) (D + 1), .slice (some ⟨Gq, 0, none⟩) (D + 1) (D + 1), .func (.func 169) #[] #[.pointer (some ⟨Bs, 0, none⟩)], .int .i64 ((x.1.1 : Nat) : Int), .int .u16 ((x.1.2 : Nat) : Int), undef, undef, undef, undef, undef,
      undef, undef, undef, undef, undef, undef, undef, undef, undef, undef, undef, undef, undef, undef, undef, undef, undef, undef], defers := [] }) ?assign ?body ?done ?stop
    case assign =>
      intro y x W K hK
      dsimp only [ency]
      gi_wp2
      exact hK
    case body =>
      rintro y pre x W ⟨R, Q, hR, hQ, hQl, hdw, hrow, hc⟩ _
      have hRl : R.length = La + 1 := by have := hdw.row.1; simpa [cellsOf] using this
      have hx := x.2
      have htop : 0 < val ((dig (n * f)).drop K) := by
        apply Nat.pos_of_ne_zero
        intro e
        have e1 := val_take_drop (dig (n * f)) K
        rw [e, val_dig] at e1
        have e2 := val_lt ((dig_Lm (n * f)).take K)
        rw [List.length_take, HNL.out, Nat.min_eq_left (by omega)] at e2
        have e3 : 65536 ^ (K + 1) ≤ n * f := pow_le_of_length (by rw [HNL.out]; omega)
        have e4 : (65536 : Nat) ^ (K + 1) = 65536 ^ K * 65536 := Nat.pow_succ _ _
        omega
      have hcall := fun W' (hr : W'.ownsRow (S + 1) 59 1 (.slice (some ⟨S + 1, 0, none⟩) (La + 1) (La + 1)) (La + 1) (cellsOf R)) (hl : Lim W' (.slice (some ⟨gs, 0, none⟩) (K + 2) caps) (dig (n * f))) =>
        takeOut_any (S + 1) (La + 1) x.1.1 K (La + 1 - x.1.1) (S + 1) gs 0 caps R (dig (n * f)) hR (dig_Lm _) (by omega) (by omega) (by omega) (by omega) htop W' hr hl (by omega)
      rw [val_dig] at hcall
      have hend := fun w3 (P' : List Nat) h1 h2 h3 h4 h5 => loop_round (x := x) (Bs := Bs) (B := W9.heap.size) (w3 := w3) (P' := P') hR hQ hQl hdw hrow hc (by omega) hRl HD0.out HNF.out h1 h2 h3 h4 h5 (by omega) (by omega) (by omega) (by omega)
      have cQ := hdw.bQ.cell
      have cR := hdw.bR.cell
      have cB := hdw.bB.cell
      have cS := hdw.bS.cell
      have hrowR := hdw.row
      have hlsS := hdw.ls.1
      have hqcell := hrow.cellAt x.1.1 (by omega)
      have hqfro := hrow.frozenAt x.1.1
      rw [cellsOf_get _ _ (by rw [hQl]; exact hx)] at hqcell
      generalize Q[x.1.1]?.getD 0 = q0 at hqcell
      have hqlt := hrow.lt Gq rfl
      have hWs := hdw.hB.size
      have HC := Lib.hid hcall
      have HE := Lib.hid hend
      clear hcall hend hrow hdw hc hQ hR hRl htop hQl
      have hs1 := fun W' => slice_mid W' ⟨S + 1, 0, none⟩ (La + 1) (La + 1) x.1.1 (x.1.1 + (K + 3)) ((x.1.1 : Int) + ((K : Int) + 2) + 1) (by omega) (by omega) (by omega) (by omega)
      rw [add_eq, Nat.zero_add, show x.1.1 + (K + 3) - x.1.1 = K + 3 from by omega] at hs1
      generalize min (val (List.take (K + 3) (List.drop x.1.1 R)) / (n * f)) 65535 = gq at HC HE
      obtain ⟨i, hi⟩ : ∃ i, i = x.1.1 := ⟨_, rfl⟩
      rw [← hi] at hx hqcell hqfro hs1 HC HE ⊢
      have q1 : IntKind.i64.wrap ((i : Int) + ((K : Int) + 2)) = (i : Int) + ((K : Int) + 2) := IntWalk.i64_in _ (by omega)
      have q2 : IntKind.i64.wrap ((i : Int) + ((K : Int) + 2) + 1) = (i : Int) + ((K : Int) + 2) + 1 := IntWalk.i64_in _ (by omega)
      have hmx : Tryz.prog.follows .mixedOrders = true := by kernel_rfl
      clear hi
      gi_wp2
      refine wpIn_region_any hmx ?_
      refine anyIn_of_any (by kernel_rfl) (fun _ _ h => h) _ _ _ _ (wpAny_of_held (S := fun W' => W'.cell? ⟨w.heap.size + 1, 0, none⟩ = some (.slice (some ⟨Gq, 0, none⟩) (D + 1) (D + 1)) ∧ W'.cell? ⟨w.heap.size + 1 + 1, 0, none⟩ = some (.slice (some ⟨S + 1, 0, none⟩) (La + 1) (La + 1)) ∧ W'.cell? ⟨w.heap.size, 0, none⟩ = some (.slice b (K + 2) capb) ∧
        W'.cell? ⟨S, 0, none⟩ = some (.slice (some ⟨gs, 0, none⟩) (K + 2) caps) ∧ (∃ q0 : Nat, W'.cell? ⟨Gq, i, none⟩ = some (.int .u16 (q0 : Int))) ∧ W'.frozen? ⟨Gq, i, none⟩ = false) _ _ _ _ ?_)
      have hHeld : W.drew.cell? ⟨w.heap.size + 1, 0, none⟩ = some (.slice (some ⟨Gq, 0, none⟩) (D + 1) (D + 1)) ∧ W.drew.cell? ⟨w.heap.size + 1 + 1, 0, none⟩ = some (.slice (some ⟨S + 1, 0, none⟩) (La + 1) (La + 1)) ∧ W.drew.cell? ⟨w.heap.size, 0, none⟩ = some (.slice b (K + 2) capb) ∧
        W.drew.cell? ⟨S, 0, none⟩ = some (.slice (some ⟨gs, 0, none⟩) (K + 2) caps) ∧ (∃ q0 : Nat, W.drew.cell? ⟨Gq, i, none⟩ = some (.int .u16 (q0 : Int))) ∧ W.drew.frozen? ⟨Gq, i, none⟩ = false := ⟨cQ, cR, cB, cS, ⟨q0, hqcell⟩, hqfro⟩
      change wpAnyH _ _ _ _ _ 14 #[false, false, false, false, false, false, false, false, false, false, false, false, false, false] _ (World.drew W)
      refine wpAnyH_take (i := 1) (v := ?_) rfl (by kernel_rfl) (by kernel_rfl) (by kernel_rfl) (fun _ _ _ h => h) (Or.inl ⟨by rfl, ?_⟩) (by assumption) ?_
      rotate_left
      · intro w hSw
        obtain ⟨s1, s2, s3, s4, s5, s6⟩ := hSw
        go_simp
        try with_reducible rfl
      rotate_left
      simp only [Act.put, List.setIfInBounds_toArray, List.set_cons_zero, List.set_cons_succ]
      refine wpAnyH_take (i := 3) (v := ?_) rfl (by kernel_rfl) (by kernel_rfl) (by kernel_rfl) (fun _ _ _ h => h) (Or.inl ⟨by rfl, ?_⟩) (by assumption) ?_
      rotate_left
      · intro w hSw
        obtain ⟨s1, s2, s3, s4, s5, s6⟩ := hSw
        go_simp
        try with_reducible rfl
      rotate_left
      simp only [Act.put, List.setIfInBounds_toArray, List.set_cons_zero, List.set_cons_succ]
      refine wpAnyH_take (i := 4) (v := ?_) rfl (by kernel_rfl) (by kernel_rfl) (by kernel_rfl) (fun _ _ _ h => h) (Or.inl ⟨by rfl, ?_⟩) (by assumption) ?_
      rotate_left
      · intro w hSw
        obtain ⟨s1, s2, s3, s4, s5, s6⟩ := hSw
        go_simp
        try with_reducible rfl
      rotate_left
      simp only [Act.put, List.setIfInBounds_toArray, List.set_cons_zero, List.set_cons_succ]
      refine wpAnyH_take (i := 0) (v := ?_) rfl (by kernel_rfl) (by kernel_rfl) (by kernel_rfl) (fun _ _ _ h => h) (Or.inl ⟨by rfl, ?_⟩) (by assumption) ?_
      rotate_left
      · intro w hSw
        obtain ⟨s1, s2, s3, s4, s5, s6⟩ := hSw
        go_simp
        try with_reducible rfl
      rotate_left
      simp only [Act.put, List.setIfInBounds_toArray, List.set_cons_zero]
      refine wpAnyH_take (i := 2) (v := ?_) rfl (by kernel_rfl) (by kernel_rfl) (by kernel_rfl) (fun _ _ _ h => h) (Or.inl ⟨by rfl, ?_⟩) (by assumption) ?_
      rotate_left
      · intro w hSw
        obtain ⟨s1, s2, s3, s4, s5, s6⟩ := hSw
        go_simp
        try with_reducible rfl
      rotate_left
      simp only [Act.put, List.setIfInBounds_toArray, List.set_cons_zero, List.set_cons_succ]
      refine wpAnyH_take (i := 5) (v := ?_) rfl (by kernel_rfl) (by kernel_rfl) (by kernel_rfl) (fun _ _ _ h => h) (Or.inl ⟨by rfl, ?_⟩) (by assumption) ?_
      rotate_left
      · intro w hSw
        obtain ⟨s1, s2, s3, s4, s5, s6⟩ := hSw
        go_simp
        try with_reducible rfl
      rotate_left
      simp only [Act.put, List.setIfInBounds_toArray, List.set_cons_zero, List.set_cons_succ]
      refine wpAnyH_take (i := 10) (v := ?_) rfl (by kernel_rfl) (by kernel_rfl) (by kernel_rfl) (fun _ _ _ h => h) (Or.inl ⟨by rfl, ?_⟩) (by assumption) ?_
      rotate_left
      · intro w hSw
        obtain ⟨s1, s2, s3, s4, s5, s6⟩ := hSw
        go_simp
        try with_reducible rfl
      rotate_left
      simp only [Act.put, List.setIfInBounds_toArray, List.set_cons_zero, List.set_cons_succ]
      refine wpAnyH_take (i := 6) (v := ?_) rfl (by kernel_rfl) (by kernel_rfl) (by kernel_rfl) (fun _ _ _ h => h) (Or.inl ⟨by rfl, ?_⟩) (by assumption) ?_
      rotate_left
      · intro w hSw
        obtain ⟨s1, s2, s3, s4, s5, s6⟩ := hSw
        go_simp
        try with_reducible rfl
      rotate_left
      simp only [Act.put, List.setIfInBounds_toArray, List.set_cons_zero, List.set_cons_succ]
      refine wpAnyH_take (i := 7) (v := ?_) rfl (by kernel_rfl) (by kernel_rfl) (by kernel_rfl) (fun _ _ _ h => h) (Or.inl ⟨by rfl, ?_⟩) (by assumption) ?_
      rotate_left
      · intro w hSw
        obtain ⟨s1, s2, s3, s4, s5, s6⟩ := hSw
        go_simp
        try with_reducible rfl
      rotate_left
      simp only [Act.put, List.setIfInBounds_toArray, List.set_cons_zero, List.set_cons_succ]
      refine wpAnyH_take (i := 8) (v := ?_) rfl (by kernel_rfl) (by kernel_rfl) (by kernel_rfl) (fun _ _ _ h => h) (Or.inl ⟨by rfl, ?_⟩) (by assumption) ?_
      rotate_left
      · intro w hSw
        obtain ⟨s1, s2, s3, s4, s5, s6⟩ := hSw
        go_simp
        try with_reducible rfl
      rotate_left
      simp only [Act.put, List.setIfInBounds_toArray, List.set_cons_zero, List.set_cons_succ]
      refine wpAnyH_take (i := 9) (v := ?_) rfl (by kernel_rfl) (by kernel_rfl) (by kernel_rfl) (fun _ _ _ h => h) (Or.inl ⟨by rfl, ?_⟩) (by assumption) ?_
      rotate_left
      · intro w hSw
        obtain ⟨s1, s2, s3, s4, s5, s6⟩ := hSw
        go_simp
        try with_reducible rfl
      rotate_left
      simp only [Act.put, List.setIfInBounds_toArray, List.set_cons_zero, List.set_cons_succ]
      refine wpAnyH_ready (rs := [11]) (by kernel_rfl) (by simp) ?_
      refine AllReadyH.cons rfl (fun K1 hK1 => ?_) AllReadyH.nil
      go_simp
      go_wp2_with (go_at_call 166; refine (HC.out _ (by exact hrowR) (by exact hlsS)).mono ?_; rintro e w3 ⟨⟨P', hPl, hPm, rfl, hPv, hrow3⟩, hg3⟩)
      have hg3' : W.grownBy w3 (some (S + 1)) := ⟨hg3.os, hg3.tape, hg3.output, hg3.size, hg3.block⟩
      have kc : ∀ p : Addr, p.block ≠ S + 1 → p.block < W.heap.size → w3.cell? p = W.cell? p := fun p h1 h2 => World.cell?_of_block (hg3'.block p.block h2 (fun h => h1 (Option.some.inj h)))
      have kf : w3.frozen? ⟨Gq, i, none⟩ = W.frozen? ⟨Gq, i, none⟩ := World.frozen?_of_block (hg3'.block Gq hqlt.2 (fun h => by have := Option.some.inj h; omega))
      refine hK1.out _ _ ⟨(kc _ (by simp; omega) (by simp; omega)).trans cQ, (kc _ (by simp; omega) (by simp; omega)).trans cR, (kc _ (by simp; omega) (by simp; omega)).trans cB, (kc _ (by simp) (by simp; omega)).trans cS, ⟨q0, (kc _ (by simp; omega) hqlt.2).trans hqcell⟩, kf.trans hqfro⟩ (fun hHeld => ?_)
      clear hK1 K1
      simp only [List.setIfInBounds_toArray, List.set_cons_zero, List.set_cons_succ]
      refine wpAnyH_take (i := 12) (v := ?_) rfl (by kernel_rfl) (by kernel_rfl) (by kernel_rfl) (fun _ _ _ h => h) (Or.inl ⟨by rfl, ?_⟩) (by assumption) ?_
      rotate_left
      · intro w hSw
        obtain ⟨s1, s2, s3, s4, s5, s6⟩ := hSw
        go_simp
        rw [if_pos (by omega)]
      rotate_left
      simp only [Act.put, List.setIfInBounds_toArray, List.set_cons_zero, List.set_cons_succ]
      refine wpAnyH_ready (rs := [13]) (by kernel_rfl) (by simp) ?_
      refine AllReadyH.cons rfl (fun K1 hK1 => ?_) AllReadyH.nil
      obtain ⟨s1, s2, s3, s4, ⟨q9, s5⟩, s6⟩ := hHeld
      go_simp
      have n5 := HD0.out
      refine hK1.out _ _ ⟨(World.cell?_setCell_far _ _ _ _ (by simp; omega)).trans s1, (World.cell?_setCell_far _ _ _ _ (by simp; omega)).trans s2, (World.cell?_setCell_far _ _ _ _ (by simp; omega)).trans s3, (World.cell?_setCell_far _ _ _ _ (by simp; omega)).trans s4, ⟨gq, ?_⟩, ?_⟩ (fun hHeld => ?_)
      · exact World.cell?_setCell_same _ _ _ s5
      · rw [World.frozen?_setCell]; exact s6
      clear hK1 K1 hHeld
      refine wpAnyH_done (by kernel_rfl) ?_ _
      exact HE.out w3 P' hPm hPl hPv hg3' hrow3
    case done =>
      rintro Dd ys W hD hS ⟨R, Q, hR, hQ, hQl, hdw, hrow, hc⟩ hK
      have hRl : R.length = La + 1 := by have := hdw.row.1; simpa [cellsOf] using this
      have hyl : ys.length = D + 1 := by have := congrArg List.length hS; simpa using this
      have hinv := hc (by rw [hyl, List.take_of_length_le (by simp)]; exact hS)
      rw [hyl, Nat.sub_self] at hinv
      obtain ⟨eQ, eR⟩ := div_end HD0.out hinv
      obtain ⟨e1, e2⟩ := mod_mul_div (m := m) (n := n) (f := f) (by omega)
      have hds := divideShort_any (.slice (some ⟨S + 1, 0, none⟩) (La + 1) (La + 1)) R hR (by omega) f (by omega) (by omega) W (Lim.of_owns hdw.row (by omega))
      rw [eR, e1] at hds
      have hlq : Lim W (.slice (some ⟨Gq, 0, none⟩) (D + 1) (D + 1)) Q := Lim.of_owns hrow (by omega)
      have hfq := Fr.of_owns hrow
      have cR := hdw.bR.cell
      have fR := hdw.bR.frozen
      have hWs := hdw.hB.size
      have hGq := (hrow.lt Gq rfl).2
      have hmx2 : Tryz.prog.follows .mixedOrders = true := by kernel_rfl
      have hDl := (Array.getElem?_eq_some_iff.1 hK).1
      have n6 := hdw.hS
      rw [e2] at eQ
      have HDS := Lib.hid hds
      have HDW := Lib.hid hdw
      have HEQ := Lib.hid eQ
      clear hds hdw hc hinv e1 e2 eR eQ hrow
      generalize m * f % (n * f) % f = rr at HDS
      gi_wp2_with (refine ⟨trivial, ?_⟩; gi_at_call 133; refine (callsIn_wide.2 HDS.out).mono ?_; rintro e w3 ⟨⟨vr, rfl, hlr⟩, hb3⟩; obtain ⟨ar, capr, rfl, -⟩ := id hlr.1; have bR3 := Boxed.below HDW.out.bR hb3; have cR3 := bR3.cell; have fR3 := bR3.frozen)
      have hs3 := hb3.size
      have hvr := hlr.2.own
      have hlr3 := (hlr.mono (show w.heap.size + 1 + 1 + 1 ≤ W.heap.size by omega)).kept (grownBy_setCell' w3 (w.heap.size + 1 + 1) (.slice ar (dig (m % n)).length capr)) (fun r e => hlr.2.own r (by cases e; omega))
      have g30 : W.grownBy w3 (some (w.heap.size + 1 + 1)) := ⟨hb3.os, hb3.tape, hb3.output, hb3.size, fun k hk _ => hb3.block k hk⟩
      have g3 : W.grownBy (w3.setCell ⟨w.heap.size + 1 + 1, 0, none⟩ (.slice ar (dig (m % n)).length capr)) (some (w.heap.size + 1 + 1)) := g30.trans (grownBy_setCell' w3 (w.heap.size + 1 + 1) (.slice ar (dig (m % n)).length capr))
      have bQ4 := HDW.out.bQ.kept g3 (by simp)
      have bR4 := bR3.set (.slice ar (dig (m % n)).length capr)
      have hlq4 := hlq.kept g3 (fun r e => by cases e; simp [Value.ownBlock]; omega)
      have hfq4 := hfq.kept g3 (fun r e => by cases e; simp [Value.ownBlock]; omega)
      have hB4 := HDW.out.hB.grown g3 hWs (fun k e => by cases e; omega)
      have hK4 := (g3.block Dd hDl (fun h => by have := Option.some.inj h; omega)).trans hK
      have hs4 := g3.size
      clear g3 g30 bR3 cR3 fR3 hlr hb3 HDS hs3
      generalize w3.setCell ⟨w.heap.size + 1 + 1, 0, none⟩ (.slice ar (dig (m % n)).length capr) = W4 at *
      have cQ4 := bQ4.cell
      have cR4 := bR4.cell
      have htr := fun W' (hb : Below W4.heap.size W4 W') => trim_any (.slice (some ⟨Gq, 0, none⟩) (D + 1) (D + 1)) Q hQ W' (hlq4.below hb (Nat.le_refl _))
      rw [HEQ.out] at htr
      have HTR := Lib.hid htr
      clear htr
      refine goesOn_then ?_
      gi_region_with_o (refine ⟨trivial, ?_⟩; gi_at_call 136; refine (callsIn_wide.2 (HTR.out _ (Below.refl _ _).drew)).mono ?_; rintro e w5 ⟨⟨vq, rfl, hl5, hpt⟩, hb5⟩; obtain ⟨aq, capq, rfl, -⟩ := id hl5; have cQ5 := (hb5.cell (p := ⟨w.heap.size + 1, 0, none⟩) (by simp; omega)).trans cQ4; have cR5 := (hb5.cell (p := ⟨w.heap.size + 1 + 1, 0, none⟩) (by simp; omega)).trans cR4; have fQ5 := (hb5.frozen (p := ⟨w.heap.size + 1, 0, none⟩) (by simp; omega)).trans bQ4.frozen; have fR5 := (hb5.frozen (p := ⟨w.heap.size + 1 + 1, 0, none⟩) (by simp; omega)).trans bR4.frozen)
      all_goals
        have hb6 : Below W4.heap.size W4 w5 := ⟨hb5.os, hb5.tape, hb5.output, hb5.size, hb5.block⟩
        have hlq5 : LimF (w.heap.size + 1 + 1 + 1) w5 (.slice aq (dig (m / n)).length capq) (dig (m / n)) := ⟨hl5, ((hfq4.mono (by omega)).below hb6).part hpt⟩
        obtain ⟨x1, x2, x3, x4, x5⟩ := box2 (Boxed.below bQ4 hb6) (Boxed.below bR4 hb6) hlq5 (hlr3.below hb6) (hB4.trans (hb6.mono (by omega)))
        have hK5 := (hb6.block Dd (Array.getElem?_eq_some_iff.1 hK4).1).trans hK4
        have hK6 := ((KeepsOthers.setCell w5 ⟨w.heap.size + 1, 0, none⟩ (.slice aq (dig (m / n)).length capq)).trans (KeepsOthers.setCell _ ⟨w.heap.size + 1 + 1, 0, none⟩ (.slice ar (dig (m % n)).length capr))).same Dd _ hK5 rfl
        have hB7 := x5.trans (belowK_b (w := w) (Nat.le_refl _) _ Dd _ (.deferred none) (by omega) hK6 rfl rfl)
        have q7 := cell_kept x1 (grownBy_putObj' _ Dd (.deferred none)) (fun r e => by cases e; exact ⟨_, hK6, rfl⟩)
        have r7 := cell_kept x2 (grownBy_putObj' _ Dd (.deferred none)) (fun r e => by cases e; exact ⟨_, hK6, rfl⟩)
        have fq := x3.kept (grownBy_putObj' _ Dd (.deferred none)) (fun r e => hpt.own r (by cases e; omega))
        have fr := x4.kept (grownBy_putObj' _ Dd (.deferred none)) (fun r e => hvr r (by cases e; omega))
        simp only [GoesOn]
        gi_wp2
        refine ⟨by simp, .inl ⟨_, _, rfl, run_takeDeferred hK6, ?_⟩⟩
        refine ⟨.tuple #[.slice aq (dig (m / n)).length capq, .slice ar (dig (m % n)).length capr], ?_, ⟨_, _, rfl, fq, fr⟩, hB7⟩
        simp [results, Tryz.f130, go_sem, q7, r7]
    case stop =>
      rintro Dd c pre W _ _ h _
      exact h.elim
end Go.Proofs.YtmbcnfogjncdaaaGreat
namespace Go.Proofs.YtmbcnfogjncdaaaGreat
open Go.RowKit Wh
theorem divide_any (sa sb : Value) (m n : Nat) (hn0 : n ≠ 0) (hm : (dig m).length ≤ 16384) (w : World) (h : Lim w sa (dig m)) (g : Lim w sb (dig n)) :
  Calls Tryz.prog 130 #[sa, sb] w fun e w' => (∃ vq vr, e = .returned (.tuple #[vq, vr]) ∧ LimF w.heap.size w' vq (dig (m / n)) ∧ LimF w.heap.size w' vr (dig (m % n))) ∧ Below w.heap.size w w' := by
 rcases Nat.lt_or_ge m n with h1 | h1
 · exact divide_less sa sb m n h1 w h g
 rcases Nat.lt_or_ge 3 (dig n).length with h2 | h2
 · exact callsIn_wide.1 (divide_long sa sb m n ((dig n).length - 2) h1 (by omega) (by omega) hm w h g)
 · exact divide_short sa sb m n h1 hn0 h2 (by omega) w h g
end Go.Proofs.YtmbcnfogjncdaaaGreat
namespace Go.Proofs.YtmbcnfogjncdaaaGreat
open Go.RowKit Wh
def GcdRel (a b : Nat) (x y : Value) : Prop := ∃ p q : Nat, p < 18446744073709551616 ∧ q < 18446744073709551616 ∧ Nat.gcd p q = Nat.gcd a b ∧ x = .int .u64 (p : Int) ∧ y = .int .u64 (q : Int)
theorem shortDivisor_any (a b : Nat) (ha : a < 18446744073709551616) (hb : b < 18446744073709551616) (w : World) :
    Calls Tryz.prog 212 #[.int .u64 (a : Int), .int .u64 (b : Int)] w fun e w' => e = .returned (.int .u64 ((Nat.gcd a b : Nat) : Int)) ∧ Below w.heap.size w w' := by
  go_enter Tryz.func212, Tryz.ntmps212
  go_wp2
  go_loopw [0, 1] (fun x y wr => GcdRel a b x y ∧ Below w.heap.size w wr) (fun _ y _ => (intOf y).toNat)
  case atStart => exact ⟨⟨a, b, ha, hb, rfl, rfl, rfl⟩, Below.refl _ _⟩
  case round =>
    obtain ⟨⟨p, q, hp, hq, hg, rfl, rfl⟩, hB⟩ := hrel
    rcases Nat.eq_zero_or_pos q with rfl | hq0
    · go_wp2
      go_ret
      rw [Nat.gcd_zero_right] at hg
      subst hg
      exact ⟨rfl, hB⟩
    · have hne : ¬ (q : Int) = 0 := by omega
      have hd : (p : Int) % (q : Int) = ((p % q : Nat) : Int) := by simp
      go_wp2
      go_region
      have hlt := Nat.mod_lt p hq0
      refine ⟨⟨_, _, _, _, _, _, _, _, ⟨⟨q, p % q, hq, by omega, by rw [Nat.gcd_comm q, ← Nat.gcd_rec, Nat.gcd_comm, hg], rfl, by rw [hd]⟩, hB.drew⟩, rfl⟩, ?_⟩
      simp only [intOf, hd, Array.getD]
      simp
      omega
def BitRel (u n0 : Nat) (n t : Value) : Prop := ∃ k : Nat, n = .int .i64 ((n0 + k : Nat) : Int) ∧ t = .int .u16 ((u / 2 ^ k : Nat) : Int) ∧ k ≤ 16 ∧ (k = 0 ∨ 2 ^ (k - 1) ≤ u)
theorem bitLen_any (sv : Value) (l : List Nat) (hl : Lm l) (hne : l ≠ []) (hll : l.length ≤ 1048000) (h0 : l[l.length - 1]?.getD 0 ≠ 0) (w : World) (h : Lim w sv l) :
    Calls Tryz.prog 259 #[sv] w fun e w' => (∃ k : Nat, e = .returned (.int .i64 ((16 * (l.length - 1) + k : Nat) : Int)) ∧ 1 ≤ k ∧ k ≤ 16 ∧ 2 ^ (k - 1) ≤ l[l.length - 1]?.getD 0 ∧ l[l.length - 1]?.getD 0 < 2 ^ k) ∧ w = w' := by
  have h' := h
  obtain ⟨a, cap, rfl, hlc, ⟨hcm, hcl, hcn⟩, hcs⟩ := h'
  obtain ⟨b, off, rfl, hb, hc⟩ := h.block hne
  have hpos : 0 < l.length := by cases l with | nil => exact absurd rfl hne | cons => simp
  have hcell := hc (l.length - 1) (by omega)
  have hu := hl.getD (l.length - 1)
  generalize l[l.length - 1]?.getD 0 = u at *
  clear hc hcs hcn h
  obtain ⟨n0, hn0⟩ : ∃ n0, n0 = 16 * (l.length - 1) := ⟨_, rfl⟩
  have hn1 : n0 ≤ 16768000 := by omega
  rw [← hn0]
  go_enter Tryz.func259, Tryz.ntmps259
  go_wp2
  have hn2 : 16 * ((l.length : Int) - 1) = (n0 : Int) := by omega
  rw [hn2]
  go_loopw [3, 4] (fun n t wr => BitRel u n0 n t ∧ Same w wr) (fun _ t _ => (intOf t).toNat)
  case atStart => exact ⟨⟨0, rfl, by simp, by omega, .inl rfl⟩, rfl⟩
  case round =>
    obtain ⟨⟨k, rfl, rfl, hk, hk2⟩, hs⟩ := hrel
    obtain rfl : w = wr := hs
    have HK := Lib.hid hk2
    clear hk2
    obtain ⟨v, hv⟩ : ∃ v, v = u / 2 ^ k := ⟨_, rfl⟩
    have hvu : v ≤ u := by rw [hv]; exact Nat.div_le_self _ _
    have HV := Lib.hid hv
    rw [← hv]
    clear hv
    rcases Nat.eq_zero_or_pos v with rfl | hv0
    · have hlt : u < 2 ^ k := by
        have h1 := HV.out
        rcases Nat.lt_or_ge u (2 ^ k) with h2 | h2
        · exact h2
        · have := Nat.div_pos h2 (Nat.two_pow_pos k); omega
      have hk1 : k ≠ 0 := by rintro rfl; simp at hlt; omega
      have HLT := Lib.hid hlt
      clear hlt
      go_wp2
      go_ret
      exact ⟨⟨k, rfl, by omega, hk, (HK.out.resolve_left hk1), HLT.out⟩, rfl⟩
    · have hge : 2 ^ k ≤ u := by
        rcases Nat.lt_or_ge u (2 ^ k) with h2 | h2
        · have := HV.out; rw [Nat.div_eq_of_lt h2] at this; omega
        · exact h2
      have hk16 : k < 16 := by
        rcases Nat.lt_or_ge k 16 with h2 | h2
        · exact h2
        · have := Nat.pow_le_pow_right (show 0 < 2 by omega) h2; omega
      have HGE := Lib.hid hge
      clear hge
      go_wp2
      have e1 : u / 2 ^ (k + 1) = v / 2 := by rw [HV.out, Nat.pow_succ, Nat.div_div_eq_div_mul]
      have e2 : (16 * ((l.length - 1 : Nat) : Int) + k + 1) = ((n0 + (k + 1) : Nat) : Int) := by omega
      exact ⟨⟨⟨k + 1, by rw [e2], by rw [e1]; simp, by omega, .inr (by simpa using HGE.out)⟩, rfl⟩, by simp [intOf]; omega⟩
end Go.Proofs.YtmbcnfogjncdaaaGreat
