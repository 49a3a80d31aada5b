/-
'WholeInts': the walk.
-/
import Derived.Test.YtodmbklednehbaaHelp
import Derived.Outline
namespace Go.Proofs.Ytodmbklednehbaa
open Go.RowKit Wh

theorem Valid_num (v : Value) (z : Int) (hz : (dig z.natAbs).length ≤ 1024) (w : World) (h : Num w v z) :
    Calls Try.prog 20 #[v] w fun e w' => e = .returned (.bool true) ∧ Below w.heap.size w w' := by
  obtain ⟨s, rfl, h⟩ := h
  have := Valid_any (decide (z < 0)) s _ w h
  rwa [vld_num z hz] at this

theorem Cmp_lit (va vb : Value) (a b o : Int) (ho : cmpI a b = o) (ha : (dig a.natAbs).length ≤ 1024) (hb : (dig b.natAbs).length ≤ 1024) (w : World) (h : Num w va a) (g : Num w vb b) :
    Calls Try.prog 33 #[va, vb] w fun e w' => e = .returned (.int .i64 o) ∧ Below w.heap.size w w' := by
  have := Cmp_any va vb a b ha hb w h g
  rwa [ho] at this

theorem Num.ond {W W' : World} {v : Value} {z : Int} (h : Num W v z) (hb : Below W.drew.heap.size W.drew W') : Num W' v z := h.below (((Below.refl W.heap.size W).drew).trans hb) (Nat.le_refl _)

theorem tmod_bd (x : Int) : -2147483647 ≤ x.tmod 2147483648 ∧ x.tmod 2147483648 ≤ 2147483647 := by
  have h1 := Int.tmod_lt_of_pos x (show (0 : Int) < 2147483648 by decide)
  have h2 := Int.lt_tmod_of_pos x (show (0 : Int) < 2147483648 by decide)
  omega

theorem mul_bd (a b : Int) (a1 : -2147483647 ≤ a) (a2 : a ≤ 2147483647) (b1 : -2147483647 ≤ b) (b2 : b ≤ 2147483647) : -4611686018427387904 ≤ a * b ∧ a * b ≤ 4611686018427387904 := by
  have h := Int.natAbs_mul a b
  have h2 : a.natAbs * b.natAbs ≤ 2147483647 * 2147483647 := Nat.mul_le_mul (by omega) (by omega)
  omega

/-- Go's remainder: its size and its sign. -/
theorem tmod_facts (a b : Int) (hb : b ≠ 0) : ∃ q, a = q * b + a.tmod b ∧ (a.tmod b).natAbs < b.natAbs ∧ (0 ≤ a → 0 ≤ a.tmod b) ∧ (a ≤ 0 → a.tmod b ≤ 0) ∧ q.natAbs ≤ a.natAbs ∧ (a.tmod b).natAbs ≤ a.natAbs := by
  refine ⟨a.tdiv b, ?_, ?_, ?_, ?_, ?_, ?_⟩
  · have := Int.tmod_add_mul_tdiv a b
    rw [Int.mul_comm] at this
    omega
  · rw [Int.natAbs_tmod]; exact Nat.mod_lt _ (by omega)
  · exact fun h => Int.tmod_nonneg b h
  · intro h
    have := Int.tmod_nonneg b (show 0 ≤ -a by omega)
    rw [Int.neg_tmod] at this
    omega
  · rw [Int.natAbs_tdiv]; exact Nat.div_le_self _ _
  · rw [Int.natAbs_tmod]; exact Nat.mod_le _ _

theorem tdiv_of_mul (q b : Int) (hb : b ≠ 0) : (q * b).tdiv b = q := Int.mul_tdiv_cancel q hb

set_option maxRecDepth 100000 in
set_option maxHeartbeats 64000000 in
theorem WholeInts_walk (m n : Int) (h1 : -9223372036854775808 ≤ m) (h2 : m ≤ 9223372036854775807) (k1 : -9223372036854775808 ≤ n) (k2 : n ≤ 9223372036854775807) (w : World) : Calls Try.prog 10 #[.int .i64 m, .int .i64 n] w fun e w' => e = .returned (.bool true) ∧ Below w.heap.size w w' := by
  have hB := Below.refl w.heap.size w
  obtain ⟨a, ha⟩ : ∃ a, a = m.tmod 2147483648 := ⟨_, rfl⟩
  obtain ⟨b, hb⟩ : ∃ b, b = n.tmod 2147483648 := ⟨_, rfl⟩
  obtain ⟨a1, a2⟩ : -2147483647 ≤ a ∧ a ≤ 2147483647 := by rw [ha]; exact tmod_bd m
  obtain ⟨b1, b2⟩ : -2147483647 ≤ b ∧ b ≤ 2147483647 := by rw [hb]; exact tmod_bd n
  obtain ⟨ab1, ab2⟩ := mul_bd a b a1 a2 b1 b2
  have HA := Lib.hid ha
  have HBB := Lib.hid hb
  clear ha hb
  have hcmp : ∃ o, cmpI m n = o := ⟨_, rfl⟩
  rcases Int.lt_trichotomy m n with hmn | hmn | hmn
  · have HO := Lib.hid (show cmpI m n = -1 by unfold cmpI; rw [if_pos hmn])
    clear hcmp
    go_enter Try.func10, Try.ntmps10
    go_wp2_with fail
    refine (awake_any _).mono ?_
    rintro e w1 ⟨rfl, hb⟩
    replace hB := hB.trans (hb.mono hB.size)
    clear hb
    go_wp2_with fail
    refine (num_any (m) (by omega) (by omega) _).mono ?_
    rintro e w2 ⟨⟨v, rfl, hn⟩, hb⟩
    obtain ⟨bf1, af1, kf1, cf1, rfl⟩ := hn.opened
    replace hB := hB.trans (hb.mono hB.size)
    clear hb
    have f1 := hn.num
    clear hn
    go_wp2_with fail
    refine (Int_any _ m h1 h2 _ f1).mono ?_
    rintro e w3 ⟨rfl, hb⟩
    replace f1 := f1.below hb (Nat.le_refl _)
    replace hB := hB.trans (hb.mono hB.size)
    clear hb
    clear f1
    go_wp2_with fail
    refine (num_any (m) (by omega) (by omega) _).mono ?_
    rintro e w4 ⟨⟨v, rfl, hn⟩, hb⟩
    obtain ⟨bf1, af1, kf1, cf1, rfl⟩ := hn.opened
    replace hB := hB.trans (hb.mono hB.size)
    clear hb
    have f1 := hn.num
    clear hn
    go_wp2_with fail
    refine (Valid_num _ m (len_small (by omega)) _ f1).mono ?_
    rintro e w5 ⟨rfl, hb⟩
    replace f1 := f1.below hb (Nat.le_refl _)
    replace hB := hB.trans (hb.mono hB.size)
    clear hb
    clear f1
    go_wp2_with fail
    refine (num_any (m) (by omega) (by omega) _).mono ?_
    rintro e w6 ⟨⟨v, rfl, hn⟩, hb⟩
    obtain ⟨bf1, af1, kf1, cf1, rfl⟩ := hn.opened
    replace hB := hB.trans (hb.mono hB.size)
    clear hb
    have f1 := hn.num
    clear hn
    go_wp2_with fail
    refine (num_any (n) (by omega) (by omega) _).mono ?_
    rintro e w7 ⟨⟨v, rfl, hn⟩, hb⟩
    obtain ⟨bf2, af2, kf2, cf2, rfl⟩ := hn.opened
    replace f1 := f1.below hb (Nat.le_refl _)
    replace hB := hB.trans (hb.mono hB.size)
    clear hb
    have f2 := hn.num
    clear hn
    go_wp2_with fail
    refine (Cmp_lit _ _ m n _ HO.out (len_small (by omega)) (len_small (by omega)) _ f1 f2).mono ?_
    rintro e w8 ⟨rfl, hb⟩
    replace f1 := f1.below hb (Nat.le_refl _)
    replace f2 := f2.below hb (Nat.le_refl _)
    replace hB := hB.trans (hb.mono hB.size)
    clear hb
    clear f1 f2
    go_wp2_with fail
    rw [← HA.out, ← HBB.out]
    go_wp2_with fail
    refine (num_any (a) (by omega) (by omega) _).mono ?_
    rintro e w9 ⟨⟨v, rfl, hn⟩, hb⟩
    obtain ⟨bf1, af1, kf1, cf1, rfl⟩ := hn.opened
    replace hB := hB.trans (hb.mono hB.size)
    clear hb
    have f1 := hn.num
    clear hn
    go_wp2_with fail
    refine (num_any (b) (by omega) (by omega) _).mono ?_
    rintro e w10 ⟨⟨v, rfl, hn⟩, hb⟩
    obtain ⟨bf2, af2, kf2, cf2, rfl⟩ := hn.opened
    replace f1 := f1.below hb (Nat.le_refl _)
    replace hB := hB.trans (hb.mono hB.size)
    clear hb
    have f2 := hn.num
    clear hn
    go_wp2_with fail
    refine (law_sum_any _ _ a b (a + b) rfl (len_small (by omega)) (len_small (by omega)) (len_small (by omega)) _ f1 f2).mono ?_
    rintro e w11 ⟨⟨v, rfl, hn⟩, hb⟩
    obtain ⟨bgs, ags, kgs, cgs, rfl⟩ := hn.opened
    replace f1 := f1.below hb (Nat.le_refl _)
    replace f2 := f2.below hb (Nat.le_refl _)
    replace hB := hB.trans (hb.mono hB.size)
    clear hb
    have gs := hn.num
    clear hn
    clear f1 f2
    go_wp2_with fail
    refine (num_any (a + b) (by omega) (by omega) _).mono ?_
    rintro e w12 ⟨⟨v, rfl, hn⟩, hb⟩
    obtain ⟨bgt, agt, kgt, cgt, rfl⟩ := hn.opened
    replace gs := gs.below hb (Nat.le_refl _)
    replace hB := hB.trans (hb.mono hB.size)
    clear hb
    have gt := hn.num
    clear hn
    go_wp2_with fail
    refine (equal_any _ _ (a + b) (len_small (by omega)) _ gs gt).mono ?_
    rintro e w13 ⟨rfl, hb⟩
    replace gs := gs.below hb (Nat.le_refl _)
    replace gt := gt.below hb (Nat.le_refl _)
    replace hB := hB.trans (hb.mono hB.size)
    clear hb
    clear gs gt
    go_wp2_with fail
    refine (num_any (a) (by omega) (by omega) _).mono ?_
    rintro e w14 ⟨⟨v, rfl, hn⟩, hb⟩
    obtain ⟨bf1, af1, kf1, cf1, rfl⟩ := hn.opened
    replace hB := hB.trans (hb.mono hB.size)
    clear hb
    have f1 := hn.num
    clear hn
    go_wp2_with fail
    refine (num_any (b) (by omega) (by omega) _).mono ?_
    rintro e w15 ⟨⟨v, rfl, hn⟩, hb⟩
    obtain ⟨bf2, af2, kf2, cf2, rfl⟩ := hn.opened
    replace f1 := f1.below hb (Nat.le_refl _)
    replace hB := hB.trans (hb.mono hB.size)
    clear hb
    have f2 := hn.num
    clear hn
    go_wp2_with fail
    refine (law_product_any _ _ a b (a * b) rfl (len_small (by omega)) (len_small (by omega)) (len_small (by omega)) _ f1 f2).mono ?_
    rintro e w16 ⟨⟨v, rfl, hn⟩, hb⟩
    obtain ⟨bgs, ags, kgs, cgs, rfl⟩ := hn.opened
    replace f1 := f1.below hb (Nat.le_refl _)
    replace f2 := f2.below hb (Nat.le_refl _)
    replace hB := hB.trans (hb.mono hB.size)
    clear hb
    have gs := hn.num
    clear hn
    clear f1 f2
    go_wp2_with fail
    refine (num_any (a * b) (by omega) (by omega) _).mono ?_
    rintro e w17 ⟨⟨v, rfl, hn⟩, hb⟩
    obtain ⟨bgt, agt, kgt, cgt, rfl⟩ := hn.opened
    replace gs := gs.below hb (Nat.le_refl _)
    replace hB := hB.trans (hb.mono hB.size)
    clear hb
    have gt := hn.num
    clear hn
    go_wp2_with fail
    refine (equal_any _ _ (a * b) (len_small (by omega)) _ gs gt).mono ?_
    rintro e w18 ⟨rfl, hb⟩
    replace gs := gs.below hb (Nat.le_refl _)
    replace gt := gt.below hb (Nat.le_refl _)
    replace hB := hB.trans (hb.mono hB.size)
    clear hb
    clear gs gt
    go_wp2_with fail
    refine (num_any (a) (by omega) (by omega) _).mono ?_
    rintro e w19 ⟨⟨v, rfl, hn⟩, hb⟩
    obtain ⟨bf1, af1, kf1, cf1, rfl⟩ := hn.opened
    replace hB := hB.trans (hb.mono hB.size)
    clear hb
    have f1 := hn.num
    clear hn
    go_wp2_with fail
    refine (num_any (b) (by omega) (by omega) _).mono ?_
    rintro e w20 ⟨⟨v, rfl, hn⟩, hb⟩
    obtain ⟨bf2, af2, kf2, cf2, rfl⟩ := hn.opened
    replace f1 := f1.below hb (Nat.le_refl _)
    replace hB := hB.trans (hb.mono hB.size)
    clear hb
    have f2 := hn.num
    clear hn
    go_wp2_with fail
    refine (law_less_any _ _ a b (a - b) rfl (len_small (by omega)) (len_small (by omega)) (len_small (by omega)) _ f1 f2).mono ?_
    rintro e w21 ⟨⟨v, rfl, hn⟩, hb⟩
    obtain ⟨bgs, ags, kgs, cgs, rfl⟩ := hn.opened
    replace f1 := f1.below hb (Nat.le_refl _)
    replace f2 := f2.below hb (Nat.le_refl _)
    replace hB := hB.trans (hb.mono hB.size)
    clear hb
    have gs := hn.num
    clear hn
    clear f1 f2
    go_wp2_with fail
    refine (num_any (a - b) (by omega) (by omega) _).mono ?_
    rintro e w22 ⟨⟨v, rfl, hn⟩, hb⟩
    obtain ⟨bgt, agt, kgt, cgt, rfl⟩ := hn.opened
    replace gs := gs.below hb (Nat.le_refl _)
    replace hB := hB.trans (hb.mono hB.size)
    clear hb
    have gt := hn.num
    clear hn
    go_wp2_with fail
    refine (equal_any _ _ (a - b) (len_small (by omega)) _ gs gt).mono ?_
    rintro e w23 ⟨rfl, hb⟩
    replace gs := gs.below hb (Nat.le_refl _)
    replace gt := gt.below hb (Nat.le_refl _)
    replace hB := hB.trans (hb.mono hB.size)
    clear hb
    clear gs gt
    by_cases hb0 : b = 0
    · have hbe : (b == 0) = true := by simp [hb0]
      clear hb0
      go_wp2
      go_ret
      exact ⟨rfl, hB⟩
    · obtain ⟨q0, hd, hr1, hr2, hr3, hq1, hr4⟩ := tmod_facts a b hb0
      have hbe : (b == 0) = false := by simp [hb0]
      obtain ⟨r, hr⟩ : ∃ r, a.tmod b = r := ⟨_, rfl⟩
      rw [hr] at hd hr1 hr2 hr3 hr4
      have hbn : b ≠ 0 := hb0
      have rb1 : -2147483647 ≤ r := by omega
      have rb2 : r ≤ 2147483647 := by omega
      by_cases hadj : r ≠ 0 ∧ ¬ (r < 0 ↔ b < 0)
      · have e1 : (r != 0) = true := by simp [hadj.1]
        have e2 : (!decide (r < 0) == decide (b < 0)) = true := by
          have := hadj.2
          rcases Int.lt_or_le r 0 with x | x <;> rcases Int.lt_or_le b 0 with y | y <;> simp [x, y, Int.not_lt.2] <;> omega
        obtain ⟨q, hq⟩ : ∃ q, q = q0 - 1 := ⟨_, rfl⟩
        have hd2 : a = q * b + (r + b) ∧ (0 ≤ r + b ∧ r + b < b ∨ b < r + b ∧ r + b ≤ 0) := by
          refine ⟨by rw [hq, Int.sub_mul]; omega, ?_⟩
          have := hadj.1
          have := hadj.2
          omega
        have HD := Lib.hid hd2
        have hqq : (a - (r + b)).tdiv b = q := by
          have : a - (r + b) = q * b := by omega
          rw [this]; exact tdiv_of_mul q b hb0
        have qb1 : -2147483649 ≤ q := by omega
        have qb2 : q ≤ 2147483649 := by omega
        clear hadj hd hd2 hr1 hr2 hr3 hr4 hq1 hq hb0
        go_wp2_with fail
        refine (num_any (a) (by omega) (by omega) _).mono ?_
        rintro e w24 ⟨⟨v, rfl, hn⟩, hb⟩
        obtain ⟨bf1, af1, kf1, cf1, rfl⟩ := hn.opened
        replace hB := hB.trans (hb.mono hB.size)
        clear hb
        have f1 := hn.num
        clear hn
        go_wp2_with fail
        refine (num_any (b) (by omega) (by omega) _).mono ?_
        rintro e w25 ⟨⟨v, rfl, hn⟩, hb⟩
        obtain ⟨bf2, af2, kf2, cf2, rfl⟩ := hn.opened
        replace f1 := f1.below hb (Nat.le_refl _)
        replace hB := hB.trans (hb.mono hB.size)
        clear hb
        have f2 := hn.num
        clear hn
        go_wp2_with fail
        refine (DivMod_lit _ _ a b q (r + b) HD.out hbn (by omega) (by omega) _ f1 f2).mono ?_
        rintro e w26 ⟨⟨v, v2, rfl, hn, hn2⟩, hb⟩
        obtain ⟨bgq, agq, kgq, cgq, rfl⟩ := hn.opened
        obtain ⟨bgr, agr, kgr, cgr, rfl⟩ := hn2.opened
        replace f1 := f1.below hb (Nat.le_refl _)
        replace f2 := f2.below hb (Nat.le_refl _)
        replace hB := hB.trans (hb.mono hB.size)
        clear hb
        have gq := hn.num
        have gr := hn2.num
        clear hn hn2
        clear f1 f2
        have al := (Below.refl w26.heap.size w26).alloc (Nat.le_refl _) (.cells #[.bool bgq, .slice agq kgq cgq] 26)
        have xq := Bx.new w26 (.bool bgq) (.slice agq kgq cgq)
        replace gq := gq.below al (Nat.le_refl _)
        replace gr := gr.below al (Nat.le_refl _)
        replace hB := hB.alloc hB.size (.cells #[.bool bgq, .slice agq kgq cgq] 26)
        clear al
        have al := (Below.refl (w26.alloc (.cells #[.bool bgq, .slice agq kgq cgq] 26)).heap.size (w26.alloc (.cells #[.bool bgq, .slice agq kgq cgq] 26))).alloc (Nat.le_refl _) (.cells #[.bool bgr, .slice agr kgr cgr] 26)
        have xr := Bx.new (w26.alloc (.cells #[.bool bgq, .slice agq kgq cgq] 26)) (.bool bgr) (.slice agr kgr cgr)
        rw [World.size_alloc] at xr
        replace gq := gq.below al (Nat.le_refl _)
        replace gr := gr.below al (Nat.le_refl _)
        replace xq := xq.on al
        replace hB := hB.alloc hB.size (.cells #[.bool bgr, .slice agr kgr cgr] 26)
        clear al
        obtain ⟨p1, p1'⟩ := xq.cells
        obtain ⟨p2, p2'⟩ := xr.cells
        have HNR := Lib.hid (fun W => num_any (r + b) (by omega) (by omega) W)
        have HNQ := Lib.hid (fun W => num_any q (by omega) (by omega) W)
        have HLR := Lib.hid (show (dig ((r + b)).natAbs).length ≤ 1024 from len_small (by omega))
        have HLQ := Lib.hid (show (dig q.natAbs).length ≤ 1024 from len_small (by omega))
        go_wp2_with fail
        have hs1 : IntKind.i64.wrap (a - (r + b)) = a - (r + b) := Go.IntWalk.i64_in _ (by omega)
        have hs3 : IntKind.i64.wrap q = q := Go.IntWalk.i64_in _ (by omega)
        go_region_held3 (fun w' => w'.cell? ⟨w26.heap.size, 0, none⟩ = some (.bool bgq) ∧ w'.cell? ⟨w26.heap.size, 1, none⟩ = some (.slice agq kgq cgq) ∧ w'.cell? ⟨w26.heap.size + 1, 0, none⟩ = some (.bool bgr) ∧ w'.cell? ⟨w26.heap.size + 1, 1, none⟩ = some (.slice agr kgr cgr))
            (first | go_keep | exact ⟨i1, i1', i2, i2'⟩ | exact ⟨j1, j1', j2, j2'⟩ | exact ⟨l1, l1', l2, l2'⟩ | exact ⟨m1, m1', m2, m2'⟩)
            (first
            | (go_at_call_of 25 (Value.int .i64 (r + b)); refine (HNR.out _).mono ?_; rintro e y1 ⟨⟨v, rfl, hn1⟩, hb1⟩; obtain ⟨bn1, an1, kn1, cn1, rfl⟩ := hn1.opened; have hB1 := hB.drew.trans (hb1.mono hB.size); have xq1 := xq.ond hb1; have xr1 := xr.ond hb1; have gr1 := gr.ond hb1; have gq1 := gq.ond hb1; obtain ⟨i1, i1'⟩ := xq1.cells; obtain ⟨i2, i2'⟩ := xr1.cells)
            | (go_at_call_of 30 (Value.agg #[.bool bgr, .slice agr kgr cgr]); refine (equal_any _ _ _ HLR.out _ gr1 hn1.num).mono ?_; rintro e y2 ⟨rfl, hb2⟩; have hB2 := hB1.trans (hb2.mono hB1.size); have xq2 := xq1.on hb2; have xr2 := xr1.on hb2; have gq2 := gq1.below hb2 (Nat.le_refl _); obtain ⟨j1, j1'⟩ := xq2.cells; obtain ⟨j2, j2'⟩ := xr2.cells)
            | (go_at_call_of 25 (Value.int .i64 q); refine (HNQ.out _).mono ?_; rintro e y3 ⟨⟨v, rfl, hn3⟩, hb3⟩; obtain ⟨bn3, an3, kn3, cn3, rfl⟩ := hn3.opened; have hB3 := hB2.trans (hb3.mono hB2.size); have xq3 := xq2.on hb3; have xr3 := xr2.on hb3; have gq3 := gq2.below hb3 (Nat.le_refl _); obtain ⟨l1, l1'⟩ := xq3.cells; obtain ⟨l2, l2'⟩ := xr3.cells)
            | (go_at_call_of 30 (Value.agg #[.bool bgq, .slice agq kgq cgq]); refine (equal_any _ _ _ HLQ.out _ gq3 hn3.num).mono ?_; rintro e y4 ⟨rfl, hb4⟩; have hB4 := hB3.trans (hb4.mono hB3.size); have xq4 := xq3.on hb4; have xr4 := xr3.on hb4; obtain ⟨m1, m1'⟩ := xq4.cells; obtain ⟨m2, m2'⟩ := xr4.cells))
        go_wp2
        go_ret
        exact ⟨rfl, hB4⟩

      · have e3 : (r != 0) = false ∨ ((r != 0) = true ∧ (!decide (r < 0) == decide (b < 0)) = false) := by
          by_cases hr0 : r = 0
          · left; simp [hr0]
          · right
            refine ⟨by simp [hr0], ?_⟩
            have : r < 0 ↔ b < 0 := by
              by_cases x : r < 0 ↔ b < 0
              · exact x
              · exact absurd ⟨hr0, x⟩ hadj
            rcases Int.lt_or_le r 0 with x | x <;> rcases Int.lt_or_le b 0 with y | y <;> simp [x, y, Int.not_lt.2] <;> omega
        obtain ⟨q, hq⟩ : ∃ q, q = q0 := ⟨_, rfl⟩
        have hd2 : a = q * b + r ∧ (0 ≤ r ∧ r < b ∨ b < r ∧ r ≤ 0) := by
          refine ⟨by rw [hq]; exact hd, ?_⟩
          by_cases hr0 : r = 0
          · omega
          · have : r < 0 ↔ b < 0 := by
              by_cases x : r < 0 ↔ b < 0
              · exact x
              · exact absurd ⟨hr0, x⟩ hadj
            omega
        have HD := Lib.hid hd2
        have hqq : (a - r).tdiv b = q := by
          have : a - r = q * b := by omega
          rw [this]; exact tdiv_of_mul q b hb0
        have qb1 : -2147483649 ≤ q := by omega
        have qb2 : q ≤ 2147483649 := by omega
        clear hadj hd hd2 hr1 hr2 hr3 hr4 hq1 hq hb0
        rcases e3 with e3 | ⟨e3, e4⟩
        all_goals
          go_wp2_with fail
          refine (num_any (a) (by omega) (by omega) _).mono ?_
          rintro e w24 ⟨⟨v, rfl, hn⟩, hb⟩
          obtain ⟨bf1, af1, kf1, cf1, rfl⟩ := hn.opened
          replace hB := hB.trans (hb.mono hB.size)
          clear hb
          have f1 := hn.num
          clear hn
          go_wp2_with fail
          refine (num_any (b) (by omega) (by omega) _).mono ?_
          rintro e w25 ⟨⟨v, rfl, hn⟩, hb⟩
          obtain ⟨bf2, af2, kf2, cf2, rfl⟩ := hn.opened
          replace f1 := f1.below hb (Nat.le_refl _)
          replace hB := hB.trans (hb.mono hB.size)
          clear hb
          have f2 := hn.num
          clear hn
          go_wp2_with fail
          refine (DivMod_lit _ _ a b q r HD.out hbn (by omega) (by omega) _ f1 f2).mono ?_
          rintro e w26 ⟨⟨v, v2, rfl, hn, hn2⟩, hb⟩
          obtain ⟨bgq, agq, kgq, cgq, rfl⟩ := hn.opened
          obtain ⟨bgr, agr, kgr, cgr, rfl⟩ := hn2.opened
          replace f1 := f1.below hb (Nat.le_refl _)
          replace f2 := f2.below hb (Nat.le_refl _)
          replace hB := hB.trans (hb.mono hB.size)
          clear hb
          have gq := hn.num
          have gr := hn2.num
          clear hn hn2
          clear f1 f2
          have al := (Below.refl w26.heap.size w26).alloc (Nat.le_refl _) (.cells #[.bool bgq, .slice agq kgq cgq] 26)
          have xq := Bx.new w26 (.bool bgq) (.slice agq kgq cgq)
          replace gq := gq.below al (Nat.le_refl _)
          replace gr := gr.below al (Nat.le_refl _)
          replace hB := hB.alloc hB.size (.cells #[.bool bgq, .slice agq kgq cgq] 26)
          clear al
          have al := (Below.refl (w26.alloc (.cells #[.bool bgq, .slice agq kgq cgq] 26)).heap.size (w26.alloc (.cells #[.bool bgq, .slice agq kgq cgq] 26))).alloc (Nat.le_refl _) (.cells #[.bool bgr, .slice agr kgr cgr] 26)
          have xr := Bx.new (w26.alloc (.cells #[.bool bgq, .slice agq kgq cgq] 26)) (.bool bgr) (.slice agr kgr cgr)
          rw [World.size_alloc] at xr
          replace gq := gq.below al (Nat.le_refl _)
          replace gr := gr.below al (Nat.le_refl _)
          replace xq := xq.on al
          replace hB := hB.alloc hB.size (.cells #[.bool bgr, .slice agr kgr cgr] 26)
          clear al
          obtain ⟨p1, p1'⟩ := xq.cells
          obtain ⟨p2, p2'⟩ := xr.cells
          have HNR := Lib.hid (fun W => num_any r (by omega) (by omega) W)
          have HNQ := Lib.hid (fun W => num_any q (by omega) (by omega) W)
          have HLR := Lib.hid (show (dig (r).natAbs).length ≤ 1024 from len_small (by omega))
          have HLQ := Lib.hid (show (dig q.natAbs).length ≤ 1024 from len_small (by omega))
          go_wp2_with fail
          have hs1 : IntKind.i64.wrap (a - r) = a - r := Go.IntWalk.i64_in _ (by omega)
          have hs3 : IntKind.i64.wrap q = q := Go.IntWalk.i64_in _ (by omega)
          go_region_held3 (fun w' => w'.cell? ⟨w26.heap.size, 0, none⟩ = some (.bool bgq) ∧ w'.cell? ⟨w26.heap.size, 1, none⟩ = some (.slice agq kgq cgq) ∧ w'.cell? ⟨w26.heap.size + 1, 0, none⟩ = some (.bool bgr) ∧ w'.cell? ⟨w26.heap.size + 1, 1, none⟩ = some (.slice agr kgr cgr))
              (first | go_keep | exact ⟨i1, i1', i2, i2'⟩ | exact ⟨j1, j1', j2, j2'⟩ | exact ⟨l1, l1', l2, l2'⟩ | exact ⟨m1, m1', m2, m2'⟩)
              (first
              | (go_at_call_of 25 (Value.int .i64 r); refine (HNR.out _).mono ?_; rintro e y1 ⟨⟨v, rfl, hn1⟩, hb1⟩; obtain ⟨bn1, an1, kn1, cn1, rfl⟩ := hn1.opened; have hB1 := hB.drew.trans (hb1.mono hB.size); have xq1 := xq.ond hb1; have xr1 := xr.ond hb1; have gr1 := gr.ond hb1; have gq1 := gq.ond hb1; obtain ⟨i1, i1'⟩ := xq1.cells; obtain ⟨i2, i2'⟩ := xr1.cells)
              | (go_at_call_of 30 (Value.agg #[.bool bgr, .slice agr kgr cgr]); refine (equal_any _ _ _ HLR.out _ gr1 hn1.num).mono ?_; rintro e y2 ⟨rfl, hb2⟩; have hB2 := hB1.trans (hb2.mono hB1.size); have xq2 := xq1.on hb2; have xr2 := xr1.on hb2; have gq2 := gq1.below hb2 (Nat.le_refl _); obtain ⟨j1, j1'⟩ := xq2.cells; obtain ⟨j2, j2'⟩ := xr2.cells)
              | (go_at_call_of 25 (Value.int .i64 q); refine (HNQ.out _).mono ?_; rintro e y3 ⟨⟨v, rfl, hn3⟩, hb3⟩; obtain ⟨bn3, an3, kn3, cn3, rfl⟩ := hn3.opened; have hB3 := hB2.trans (hb3.mono hB2.size); have xq3 := xq2.on hb3; have xr3 := xr2.on hb3; have gq3 := gq2.below hb3 (Nat.le_refl _); obtain ⟨l1, l1'⟩ := xq3.cells; obtain ⟨l2, l2'⟩ := xr3.cells)
              | (go_at_call_of 30 (Value.agg #[.bool bgq, .slice agq kgq cgq]); refine (equal_any _ _ _ HLQ.out _ gq3 hn3.num).mono ?_; rintro e y4 ⟨rfl, hb4⟩; have hB4 := hB3.trans (hb4.mono hB3.size); have xq4 := xq3.on hb4; have xr4 := xr3.on hb4; obtain ⟨m1, m1'⟩ := xq4.cells; obtain ⟨m2, m2'⟩ := xr4.cells))
          go_wp2
          go_ret
          exact ⟨rfl, hB4⟩


  · have HO := Lib.hid (show cmpI m n = 0 by unfold cmpI; rw [if_neg (by omega), if_neg (by omega)])
    have hmn1 : ¬ m < n := by omega
    have hmn2 : ¬ n < m := by omega
    clear hmn
    clear hcmp
    go_enter Try.func10, Try.ntmps10
    go_wp2_with fail
    refine (awake_any _).mono ?_
    rintro e w1 ⟨rfl, hb⟩
    replace hB := hB.trans (hb.mono hB.size)
    clear hb
    go_wp2_with fail
    refine (num_any (m) (by omega) (by omega) _).mono ?_
    rintro e w2 ⟨⟨v, rfl, hn⟩, hb⟩
    obtain ⟨bf1, af1, kf1, cf1, rfl⟩ := hn.opened
    replace hB := hB.trans (hb.mono hB.size)
    clear hb
    have f1 := hn.num
    clear hn
    go_wp2_with fail
    refine (Int_any _ m h1 h2 _ f1).mono ?_
    rintro e w3 ⟨rfl, hb⟩
    replace f1 := f1.below hb (Nat.le_refl _)
    replace hB := hB.trans (hb.mono hB.size)
    clear hb
    clear f1
    go_wp2_with fail
    refine (num_any (m) (by omega) (by omega) _).mono ?_
    rintro e w4 ⟨⟨v, rfl, hn⟩, hb⟩
    obtain ⟨bf1, af1, kf1, cf1, rfl⟩ := hn.opened
    replace hB := hB.trans (hb.mono hB.size)
    clear hb
    have f1 := hn.num
    clear hn
    go_wp2_with fail
    refine (Valid_num _ m (len_small (by omega)) _ f1).mono ?_
    rintro e w5 ⟨rfl, hb⟩
    replace f1 := f1.below hb (Nat.le_refl _)
    replace hB := hB.trans (hb.mono hB.size)
    clear hb
    clear f1
    go_wp2_with fail
    refine (num_any (m) (by omega) (by omega) _).mono ?_
    rintro e w6 ⟨⟨v, rfl, hn⟩, hb⟩
    obtain ⟨bf1, af1, kf1, cf1, rfl⟩ := hn.opened
    replace hB := hB.trans (hb.mono hB.size)
    clear hb
    have f1 := hn.num
    clear hn
    go_wp2_with fail
    refine (num_any (n) (by omega) (by omega) _).mono ?_
    rintro e w7 ⟨⟨v, rfl, hn⟩, hb⟩
    obtain ⟨bf2, af2, kf2, cf2, rfl⟩ := hn.opened
    replace f1 := f1.below hb (Nat.le_refl _)
    replace hB := hB.trans (hb.mono hB.size)
    clear hb
    have f2 := hn.num
    clear hn
    go_wp2_with fail
    refine (Cmp_lit _ _ m n _ HO.out (len_small (by omega)) (len_small (by omega)) _ f1 f2).mono ?_
    rintro e w8 ⟨rfl, hb⟩
    replace f1 := f1.below hb (Nat.le_refl _)
    replace f2 := f2.below hb (Nat.le_refl _)
    replace hB := hB.trans (hb.mono hB.size)
    clear hb
    clear f1 f2
    go_wp2_with fail
    rw [← HA.out, ← HBB.out]
    go_wp2_with fail
    refine (num_any (a) (by omega) (by omega) _).mono ?_
    rintro e w9 ⟨⟨v, rfl, hn⟩, hb⟩
    obtain ⟨bf1, af1, kf1, cf1, rfl⟩ := hn.opened
    replace hB := hB.trans (hb.mono hB.size)
    clear hb
    have f1 := hn.num
    clear hn
    go_wp2_with fail
    refine (num_any (b) (by omega) (by omega) _).mono ?_
    rintro e w10 ⟨⟨v, rfl, hn⟩, hb⟩
    obtain ⟨bf2, af2, kf2, cf2, rfl⟩ := hn.opened
    replace f1 := f1.below hb (Nat.le_refl _)
    replace hB := hB.trans (hb.mono hB.size)
    clear hb
    have f2 := hn.num
    clear hn
    go_wp2_with fail
    refine (law_sum_any _ _ a b (a + b) rfl (len_small (by omega)) (len_small (by omega)) (len_small (by omega)) _ f1 f2).mono ?_
    rintro e w11 ⟨⟨v, rfl, hn⟩, hb⟩
    obtain ⟨bgs, ags, kgs, cgs, rfl⟩ := hn.opened
    replace f1 := f1.below hb (Nat.le_refl _)
    replace f2 := f2.below hb (Nat.le_refl _)
    replace hB := hB.trans (hb.mono hB.size)
    clear hb
    have gs := hn.num
    clear hn
    clear f1 f2
    go_wp2_with fail
    refine (num_any (a + b) (by omega) (by omega) _).mono ?_
    rintro e w12 ⟨⟨v, rfl, hn⟩, hb⟩
    obtain ⟨bgt, agt, kgt, cgt, rfl⟩ := hn.opened
    replace gs := gs.below hb (Nat.le_refl _)
    replace hB := hB.trans (hb.mono hB.size)
    clear hb
    have gt := hn.num
    clear hn
    go_wp2_with fail
    refine (equal_any _ _ (a + b) (len_small (by omega)) _ gs gt).mono ?_
    rintro e w13 ⟨rfl, hb⟩
    replace gs := gs.below hb (Nat.le_refl _)
    replace gt := gt.below hb (Nat.le_refl _)
    replace hB := hB.trans (hb.mono hB.size)
    clear hb
    clear gs gt
    go_wp2_with fail
    refine (num_any (a) (by omega) (by omega) _).mono ?_
    rintro e w14 ⟨⟨v, rfl, hn⟩, hb⟩
    obtain ⟨bf1, af1, kf1, cf1, rfl⟩ := hn.opened
    replace hB := hB.trans (hb.mono hB.size)
    clear hb
    have f1 := hn.num
    clear hn
    go_wp2_with fail
    refine (num_any (b) (by omega) (by omega) _).mono ?_
    rintro e w15 ⟨⟨v, rfl, hn⟩, hb⟩
    obtain ⟨bf2, af2, kf2, cf2, rfl⟩ := hn.opened
    replace f1 := f1.below hb (Nat.le_refl _)
    replace hB := hB.trans (hb.mono hB.size)
    clear hb
    have f2 := hn.num
    clear hn
    go_wp2_with fail
    refine (law_product_any _ _ a b (a * b) rfl (len_small (by omega)) (len_small (by omega)) (len_small (by omega)) _ f1 f2).mono ?_
    rintro e w16 ⟨⟨v, rfl, hn⟩, hb⟩
    obtain ⟨bgs, ags, kgs, cgs, rfl⟩ := hn.opened
    replace f1 := f1.below hb (Nat.le_refl _)
    replace f2 := f2.below hb (Nat.le_refl _)
    replace hB := hB.trans (hb.mono hB.size)
    clear hb
    have gs := hn.num
    clear hn
    clear f1 f2
    go_wp2_with fail
    refine (num_any (a * b) (by omega) (by omega) _).mono ?_
    rintro e w17 ⟨⟨v, rfl, hn⟩, hb⟩
    obtain ⟨bgt, agt, kgt, cgt, rfl⟩ := hn.opened
    replace gs := gs.below hb (Nat.le_refl _)
    replace hB := hB.trans (hb.mono hB.size)
    clear hb
    have gt := hn.num
    clear hn
    go_wp2_with fail
    refine (equal_any _ _ (a * b) (len_small (by omega)) _ gs gt).mono ?_
    rintro e w18 ⟨rfl, hb⟩
    replace gs := gs.below hb (Nat.le_refl _)
    replace gt := gt.below hb (Nat.le_refl _)
    replace hB := hB.trans (hb.mono hB.size)
    clear hb
    clear gs gt
    go_wp2_with fail
    refine (num_any (a) (by omega) (by omega) _).mono ?_
    rintro e w19 ⟨⟨v, rfl, hn⟩, hb⟩
    obtain ⟨bf1, af1, kf1, cf1, rfl⟩ := hn.opened
    replace hB := hB.trans (hb.mono hB.size)
    clear hb
    have f1 := hn.num
    clear hn
    go_wp2_with fail
    refine (num_any (b) (by omega) (by omega) _).mono ?_
    rintro e w20 ⟨⟨v, rfl, hn⟩, hb⟩
    obtain ⟨bf2, af2, kf2, cf2, rfl⟩ := hn.opened
    replace f1 := f1.below hb (Nat.le_refl _)
    replace hB := hB.trans (hb.mono hB.size)
    clear hb
    have f2 := hn.num
    clear hn
    go_wp2_with fail
    refine (law_less_any _ _ a b (a - b) rfl (len_small (by omega)) (len_small (by omega)) (len_small (by omega)) _ f1 f2).mono ?_
    rintro e w21 ⟨⟨v, rfl, hn⟩, hb⟩
    obtain ⟨bgs, ags, kgs, cgs, rfl⟩ := hn.opened
    replace f1 := f1.below hb (Nat.le_refl _)
    replace f2 := f2.below hb (Nat.le_refl _)
    replace hB := hB.trans (hb.mono hB.size)
    clear hb
    have gs := hn.num
    clear hn
    clear f1 f2
    go_wp2_with fail
    refine (num_any (a - b) (by omega) (by omega) _).mono ?_
    rintro e w22 ⟨⟨v, rfl, hn⟩, hb⟩
    obtain ⟨bgt, agt, kgt, cgt, rfl⟩ := hn.opened
    replace gs := gs.below hb (Nat.le_refl _)
    replace hB := hB.trans (hb.mono hB.size)
    clear hb
    have gt := hn.num
    clear hn
    go_wp2_with fail
    refine (equal_any _ _ (a - b) (len_small (by omega)) _ gs gt).mono ?_
    rintro e w23 ⟨rfl, hb⟩
    replace gs := gs.below hb (Nat.le_refl _)
    replace gt := gt.below hb (Nat.le_refl _)
    replace hB := hB.trans (hb.mono hB.size)
    clear hb
    clear gs gt
    by_cases hb0 : b = 0
    · have hbe : (b == 0) = true := by simp [hb0]
      clear hb0
      go_wp2
      go_ret
      exact ⟨rfl, hB⟩
    · obtain ⟨q0, hd, hr1, hr2, hr3, hq1, hr4⟩ := tmod_facts a b hb0
      have hbe : (b == 0) = false := by simp [hb0]
      obtain ⟨r, hr⟩ : ∃ r, a.tmod b = r := ⟨_, rfl⟩
      rw [hr] at hd hr1 hr2 hr3 hr4
      have hbn : b ≠ 0 := hb0
      have rb1 : -2147483647 ≤ r := by omega
      have rb2 : r ≤ 2147483647 := by omega
      by_cases hadj : r ≠ 0 ∧ ¬ (r < 0 ↔ b < 0)
      · have e1 : (r != 0) = true := by simp [hadj.1]
        have e2 : (!decide (r < 0) == decide (b < 0)) = true := by
          have := hadj.2
          rcases Int.lt_or_le r 0 with x | x <;> rcases Int.lt_or_le b 0 with y | y <;> simp [x, y, Int.not_lt.2] <;> omega
        obtain ⟨q, hq⟩ : ∃ q, q = q0 - 1 := ⟨_, rfl⟩
        have hd2 : a = q * b + (r + b) ∧ (0 ≤ r + b ∧ r + b < b ∨ b < r + b ∧ r + b ≤ 0) := by
          refine ⟨by rw [hq, Int.sub_mul]; omega, ?_⟩
          have := hadj.1
          have := hadj.2
          omega
        have HD := Lib.hid hd2
        have hqq : (a - (r + b)).tdiv b = q := by
          have : a - (r + b) = q * b := by omega
          rw [this]; exact tdiv_of_mul q b hb0
        have qb1 : -2147483649 ≤ q := by omega
        have qb2 : q ≤ 2147483649 := by omega
        clear hadj hd hd2 hr1 hr2 hr3 hr4 hq1 hq hb0
        go_wp2_with fail
        refine (num_any (a) (by omega) (by omega) _).mono ?_
        rintro e w24 ⟨⟨v, rfl, hn⟩, hb⟩
        obtain ⟨bf1, af1, kf1, cf1, rfl⟩ := hn.opened
        replace hB := hB.trans (hb.mono hB.size)
        clear hb
        have f1 := hn.num
        clear hn
        go_wp2_with fail
        refine (num_any (b) (by omega) (by omega) _).mono ?_
        rintro e w25 ⟨⟨v, rfl, hn⟩, hb⟩
        obtain ⟨bf2, af2, kf2, cf2, rfl⟩ := hn.opened
        replace f1 := f1.below hb (Nat.le_refl _)
        replace hB := hB.trans (hb.mono hB.size)
        clear hb
        have f2 := hn.num
        clear hn
        go_wp2_with fail
        refine (DivMod_lit _ _ a b q (r + b) HD.out hbn (by omega) (by omega) _ f1 f2).mono ?_
        rintro e w26 ⟨⟨v, v2, rfl, hn, hn2⟩, hb⟩
        obtain ⟨bgq, agq, kgq, cgq, rfl⟩ := hn.opened
        obtain ⟨bgr, agr, kgr, cgr, rfl⟩ := hn2.opened
        replace f1 := f1.below hb (Nat.le_refl _)
        replace f2 := f2.below hb (Nat.le_refl _)
        replace hB := hB.trans (hb.mono hB.size)
        clear hb
        have gq := hn.num
        have gr := hn2.num
        clear hn hn2
        clear f1 f2
        have al := (Below.refl w26.heap.size w26).alloc (Nat.le_refl _) (.cells #[.bool bgq, .slice agq kgq cgq] 26)
        have xq := Bx.new w26 (.bool bgq) (.slice agq kgq cgq)
        replace gq := gq.below al (Nat.le_refl _)
        replace gr := gr.below al (Nat.le_refl _)
        replace hB := hB.alloc hB.size (.cells #[.bool bgq, .slice agq kgq cgq] 26)
        clear al
        have al := (Below.refl (w26.alloc (.cells #[.bool bgq, .slice agq kgq cgq] 26)).heap.size (w26.alloc (.cells #[.bool bgq, .slice agq kgq cgq] 26))).alloc (Nat.le_refl _) (.cells #[.bool bgr, .slice agr kgr cgr] 26)
        have xr := Bx.new (w26.alloc (.cells #[.bool bgq, .slice agq kgq cgq] 26)) (.bool bgr) (.slice agr kgr cgr)
        rw [World.size_alloc] at xr
        replace gq := gq.below al (Nat.le_refl _)
        replace gr := gr.below al (Nat.le_refl _)
        replace xq := xq.on al
        replace hB := hB.alloc hB.size (.cells #[.bool bgr, .slice agr kgr cgr] 26)
        clear al
        obtain ⟨p1, p1'⟩ := xq.cells
        obtain ⟨p2, p2'⟩ := xr.cells
        have HNR := Lib.hid (fun W => num_any (r + b) (by omega) (by omega) W)
        have HNQ := Lib.hid (fun W => num_any q (by omega) (by omega) W)
        have HLR := Lib.hid (show (dig ((r + b)).natAbs).length ≤ 1024 from len_small (by omega))
        have HLQ := Lib.hid (show (dig q.natAbs).length ≤ 1024 from len_small (by omega))
        go_wp2_with fail
        have hs1 : IntKind.i64.wrap (a - (r + b)) = a - (r + b) := Go.IntWalk.i64_in _ (by omega)
        have hs3 : IntKind.i64.wrap q = q := Go.IntWalk.i64_in _ (by omega)
        go_region_held3 (fun w' => w'.cell? ⟨w26.heap.size, 0, none⟩ = some (.bool bgq) ∧ w'.cell? ⟨w26.heap.size, 1, none⟩ = some (.slice agq kgq cgq) ∧ w'.cell? ⟨w26.heap.size + 1, 0, none⟩ = some (.bool bgr) ∧ w'.cell? ⟨w26.heap.size + 1, 1, none⟩ = some (.slice agr kgr cgr))
            (first | go_keep | exact ⟨i1, i1', i2, i2'⟩ | exact ⟨j1, j1', j2, j2'⟩ | exact ⟨l1, l1', l2, l2'⟩ | exact ⟨m1, m1', m2, m2'⟩)
            (first
            | (go_at_call_of 25 (Value.int .i64 (r + b)); refine (HNR.out _).mono ?_; rintro e y1 ⟨⟨v, rfl, hn1⟩, hb1⟩; obtain ⟨bn1, an1, kn1, cn1, rfl⟩ := hn1.opened; have hB1 := hB.drew.trans (hb1.mono hB.size); have xq1 := xq.ond hb1; have xr1 := xr.ond hb1; have gr1 := gr.ond hb1; have gq1 := gq.ond hb1; obtain ⟨i1, i1'⟩ := xq1.cells; obtain ⟨i2, i2'⟩ := xr1.cells)
            | (go_at_call_of 30 (Value.agg #[.bool bgr, .slice agr kgr cgr]); refine (equal_any _ _ _ HLR.out _ gr1 hn1.num).mono ?_; rintro e y2 ⟨rfl, hb2⟩; have hB2 := hB1.trans (hb2.mono hB1.size); have xq2 := xq1.on hb2; have xr2 := xr1.on hb2; have gq2 := gq1.below hb2 (Nat.le_refl _); obtain ⟨j1, j1'⟩ := xq2.cells; obtain ⟨j2, j2'⟩ := xr2.cells)
            | (go_at_call_of 25 (Value.int .i64 q); refine (HNQ.out _).mono ?_; rintro e y3 ⟨⟨v, rfl, hn3⟩, hb3⟩; obtain ⟨bn3, an3, kn3, cn3, rfl⟩ := hn3.opened; have hB3 := hB2.trans (hb3.mono hB2.size); have xq3 := xq2.on hb3; have xr3 := xr2.on hb3; have gq3 := gq2.below hb3 (Nat.le_refl _); obtain ⟨l1, l1'⟩ := xq3.cells; obtain ⟨l2, l2'⟩ := xr3.cells)
            | (go_at_call_of 30 (Value.agg #[.bool bgq, .slice agq kgq cgq]); refine (equal_any _ _ _ HLQ.out _ gq3 hn3.num).mono ?_; rintro e y4 ⟨rfl, hb4⟩; have hB4 := hB3.trans (hb4.mono hB3.size); have xq4 := xq3.on hb4; have xr4 := xr3.on hb4; obtain ⟨m1, m1'⟩ := xq4.cells; obtain ⟨m2, m2'⟩ := xr4.cells))
        go_wp2
        go_ret
        exact ⟨rfl, hB4⟩

      · have e3 : (r != 0) = false ∨ ((r != 0) = true ∧ (!decide (r < 0) == decide (b < 0)) = false) := by
          by_cases hr0 : r = 0
          · left; simp [hr0]
          · right
            refine ⟨by simp [hr0], ?_⟩
            have : r < 0 ↔ b < 0 := by
              by_cases x : r < 0 ↔ b < 0
              · exact x
              · exact absurd ⟨hr0, x⟩ hadj
            rcases Int.lt_or_le r 0 with x | x <;> rcases Int.lt_or_le b 0 with y | y <;> simp [x, y, Int.not_lt.2] <;> omega
        obtain ⟨q, hq⟩ : ∃ q, q = q0 := ⟨_, rfl⟩
        have hd2 : a = q * b + r ∧ (0 ≤ r ∧ r < b ∨ b < r ∧ r ≤ 0) := by
          refine ⟨by rw [hq]; exact hd, ?_⟩
          by_cases hr0 : r = 0
          · omega
          · have : r < 0 ↔ b < 0 := by
              by_cases x : r < 0 ↔ b < 0
              · exact x
              · exact absurd ⟨hr0, x⟩ hadj
            omega
        have HD := Lib.hid hd2
        have hqq : (a - r).tdiv b = q := by
          have : a - r = q * b := by omega
          rw [this]; exact tdiv_of_mul q b hb0
        have qb1 : -2147483649 ≤ q := by omega
        have qb2 : q ≤ 2147483649 := by omega
        clear hadj hd hd2 hr1 hr2 hr3 hr4 hq1 hq hb0
        rcases e3 with e3 | ⟨e3, e4⟩
        all_goals
          go_wp2_with fail
          refine (num_any (a) (by omega) (by omega) _).mono ?_
          rintro e w24 ⟨⟨v, rfl, hn⟩, hb⟩
          obtain ⟨bf1, af1, kf1, cf1, rfl⟩ := hn.opened
          replace hB := hB.trans (hb.mono hB.size)
          clear hb
          have f1 := hn.num
          clear hn
          go_wp2_with fail
          refine (num_any (b) (by omega) (by omega) _).mono ?_
          rintro e w25 ⟨⟨v, rfl, hn⟩, hb⟩
          obtain ⟨bf2, af2, kf2, cf2, rfl⟩ := hn.opened
          replace f1 := f1.below hb (Nat.le_refl _)
          replace hB := hB.trans (hb.mono hB.size)
          clear hb
          have f2 := hn.num
          clear hn
          go_wp2_with fail
          refine (DivMod_lit _ _ a b q r HD.out hbn (by omega) (by omega) _ f1 f2).mono ?_
          rintro e w26 ⟨⟨v, v2, rfl, hn, hn2⟩, hb⟩
          obtain ⟨bgq, agq, kgq, cgq, rfl⟩ := hn.opened
          obtain ⟨bgr, agr, kgr, cgr, rfl⟩ := hn2.opened
          replace f1 := f1.below hb (Nat.le_refl _)
          replace f2 := f2.below hb (Nat.le_refl _)
          replace hB := hB.trans (hb.mono hB.size)
          clear hb
          have gq := hn.num
          have gr := hn2.num
          clear hn hn2
          clear f1 f2
          have al := (Below.refl w26.heap.size w26).alloc (Nat.le_refl _) (.cells #[.bool bgq, .slice agq kgq cgq] 26)
          have xq := Bx.new w26 (.bool bgq) (.slice agq kgq cgq)
          replace gq := gq.below al (Nat.le_refl _)
          replace gr := gr.below al (Nat.le_refl _)
          replace hB := hB.alloc hB.size (.cells #[.bool bgq, .slice agq kgq cgq] 26)
          clear al
          have al := (Below.refl (w26.alloc (.cells #[.bool bgq, .slice agq kgq cgq] 26)).heap.size (w26.alloc (.cells #[.bool bgq, .slice agq kgq cgq] 26))).alloc (Nat.le_refl _) (.cells #[.bool bgr, .slice agr kgr cgr] 26)
          have xr := Bx.new (w26.alloc (.cells #[.bool bgq, .slice agq kgq cgq] 26)) (.bool bgr) (.slice agr kgr cgr)
          rw [World.size_alloc] at xr
          replace gq := gq.below al (Nat.le_refl _)
          replace gr := gr.below al (Nat.le_refl _)
          replace xq := xq.on al
          replace hB := hB.alloc hB.size (.cells #[.bool bgr, .slice agr kgr cgr] 26)
          clear al
          obtain ⟨p1, p1'⟩ := xq.cells
          obtain ⟨p2, p2'⟩ := xr.cells
          have HNR := Lib.hid (fun W => num_any r (by omega) (by omega) W)
          have HNQ := Lib.hid (fun W => num_any q (by omega) (by omega) W)
          have HLR := Lib.hid (show (dig (r).natAbs).length ≤ 1024 from len_small (by omega))
          have HLQ := Lib.hid (show (dig q.natAbs).length ≤ 1024 from len_small (by omega))
          go_wp2_with fail
          have hs1 : IntKind.i64.wrap (a - r) = a - r := Go.IntWalk.i64_in _ (by omega)
          have hs3 : IntKind.i64.wrap q = q := Go.IntWalk.i64_in _ (by omega)
          go_region_held3 (fun w' => w'.cell? ⟨w26.heap.size, 0, none⟩ = some (.bool bgq) ∧ w'.cell? ⟨w26.heap.size, 1, none⟩ = some (.slice agq kgq cgq) ∧ w'.cell? ⟨w26.heap.size + 1, 0, none⟩ = some (.bool bgr) ∧ w'.cell? ⟨w26.heap.size + 1, 1, none⟩ = some (.slice agr kgr cgr))
              (first | go_keep | exact ⟨i1, i1', i2, i2'⟩ | exact ⟨j1, j1', j2, j2'⟩ | exact ⟨l1, l1', l2, l2'⟩ | exact ⟨m1, m1', m2, m2'⟩)
              (first
              | (go_at_call_of 25 (Value.int .i64 r); refine (HNR.out _).mono ?_; rintro e y1 ⟨⟨v, rfl, hn1⟩, hb1⟩; obtain ⟨bn1, an1, kn1, cn1, rfl⟩ := hn1.opened; have hB1 := hB.drew.trans (hb1.mono hB.size); have xq1 := xq.ond hb1; have xr1 := xr.ond hb1; have gr1 := gr.ond hb1; have gq1 := gq.ond hb1; obtain ⟨i1, i1'⟩ := xq1.cells; obtain ⟨i2, i2'⟩ := xr1.cells)
              | (go_at_call_of 30 (Value.agg #[.bool bgr, .slice agr kgr cgr]); refine (equal_any _ _ _ HLR.out _ gr1 hn1.num).mono ?_; rintro e y2 ⟨rfl, hb2⟩; have hB2 := hB1.trans (hb2.mono hB1.size); have xq2 := xq1.on hb2; have xr2 := xr1.on hb2; have gq2 := gq1.below hb2 (Nat.le_refl _); obtain ⟨j1, j1'⟩ := xq2.cells; obtain ⟨j2, j2'⟩ := xr2.cells)
              | (go_at_call_of 25 (Value.int .i64 q); refine (HNQ.out _).mono ?_; rintro e y3 ⟨⟨v, rfl, hn3⟩, hb3⟩; obtain ⟨bn3, an3, kn3, cn3, rfl⟩ := hn3.opened; have hB3 := hB2.trans (hb3.mono hB2.size); have xq3 := xq2.on hb3; have xr3 := xr2.on hb3; have gq3 := gq2.below hb3 (Nat.le_refl _); obtain ⟨l1, l1'⟩ := xq3.cells; obtain ⟨l2, l2'⟩ := xr3.cells)
              | (go_at_call_of 30 (Value.agg #[.bool bgq, .slice agq kgq cgq]); refine (equal_any _ _ _ HLQ.out _ gq3 hn3.num).mono ?_; rintro e y4 ⟨rfl, hb4⟩; have hB4 := hB3.trans (hb4.mono hB3.size); have xq4 := xq3.on hb4; have xr4 := xr3.on hb4; obtain ⟨m1, m1'⟩ := xq4.cells; obtain ⟨m2, m2'⟩ := xr4.cells))
          go_wp2
          go_ret
          exact ⟨rfl, hB4⟩


  · have HO := Lib.hid (show cmpI m n = 1 by unfold cmpI; rw [if_neg (by omega), if_pos hmn])
    have hmn1 : ¬ m < n := by omega
    clear hcmp
    go_enter Try.func10, Try.ntmps10
    go_wp2_with fail
    refine (awake_any _).mono ?_
    rintro e w1 ⟨rfl, hb⟩
    replace hB := hB.trans (hb.mono hB.size)
    clear hb
    go_wp2_with fail
    refine (num_any (m) (by omega) (by omega) _).mono ?_
    rintro e w2 ⟨⟨v, rfl, hn⟩, hb⟩
    obtain ⟨bf1, af1, kf1, cf1, rfl⟩ := hn.opened
    replace hB := hB.trans (hb.mono hB.size)
    clear hb
    have f1 := hn.num
    clear hn
    go_wp2_with fail
    refine (Int_any _ m h1 h2 _ f1).mono ?_
    rintro e w3 ⟨rfl, hb⟩
    replace f1 := f1.below hb (Nat.le_refl _)
    replace hB := hB.trans (hb.mono hB.size)
    clear hb
    clear f1
    go_wp2_with fail
    refine (num_any (m) (by omega) (by omega) _).mono ?_
    rintro e w4 ⟨⟨v, rfl, hn⟩, hb⟩
    obtain ⟨bf1, af1, kf1, cf1, rfl⟩ := hn.opened
    replace hB := hB.trans (hb.mono hB.size)
    clear hb
    have f1 := hn.num
    clear hn
    go_wp2_with fail
    refine (Valid_num _ m (len_small (by omega)) _ f1).mono ?_
    rintro e w5 ⟨rfl, hb⟩
    replace f1 := f1.below hb (Nat.le_refl _)
    replace hB := hB.trans (hb.mono hB.size)
    clear hb
    clear f1
    go_wp2_with fail
    refine (num_any (m) (by omega) (by omega) _).mono ?_
    rintro e w6 ⟨⟨v, rfl, hn⟩, hb⟩
    obtain ⟨bf1, af1, kf1, cf1, rfl⟩ := hn.opened
    replace hB := hB.trans (hb.mono hB.size)
    clear hb
    have f1 := hn.num
    clear hn
    go_wp2_with fail
    refine (num_any (n) (by omega) (by omega) _).mono ?_
    rintro e w7 ⟨⟨v, rfl, hn⟩, hb⟩
    obtain ⟨bf2, af2, kf2, cf2, rfl⟩ := hn.opened
    replace f1 := f1.below hb (Nat.le_refl _)
    replace hB := hB.trans (hb.mono hB.size)
    clear hb
    have f2 := hn.num
    clear hn
    go_wp2_with fail
    refine (Cmp_lit _ _ m n _ HO.out (len_small (by omega)) (len_small (by omega)) _ f1 f2).mono ?_
    rintro e w8 ⟨rfl, hb⟩
    replace f1 := f1.below hb (Nat.le_refl _)
    replace f2 := f2.below hb (Nat.le_refl _)
    replace hB := hB.trans (hb.mono hB.size)
    clear hb
    clear f1 f2
    go_wp2_with fail
    rw [← HA.out, ← HBB.out]
    go_wp2_with fail
    refine (num_any (a) (by omega) (by omega) _).mono ?_
    rintro e w9 ⟨⟨v, rfl, hn⟩, hb⟩
    obtain ⟨bf1, af1, kf1, cf1, rfl⟩ := hn.opened
    replace hB := hB.trans (hb.mono hB.size)
    clear hb
    have f1 := hn.num
    clear hn
    go_wp2_with fail
    refine (num_any (b) (by omega) (by omega) _).mono ?_
    rintro e w10 ⟨⟨v, rfl, hn⟩, hb⟩
    obtain ⟨bf2, af2, kf2, cf2, rfl⟩ := hn.opened
    replace f1 := f1.below hb (Nat.le_refl _)
    replace hB := hB.trans (hb.mono hB.size)
    clear hb
    have f2 := hn.num
    clear hn
    go_wp2_with fail
    refine (law_sum_any _ _ a b (a + b) rfl (len_small (by omega)) (len_small (by omega)) (len_small (by omega)) _ f1 f2).mono ?_
    rintro e w11 ⟨⟨v, rfl, hn⟩, hb⟩
    obtain ⟨bgs, ags, kgs, cgs, rfl⟩ := hn.opened
    replace f1 := f1.below hb (Nat.le_refl _)
    replace f2 := f2.below hb (Nat.le_refl _)
    replace hB := hB.trans (hb.mono hB.size)
    clear hb
    have gs := hn.num
    clear hn
    clear f1 f2
    go_wp2_with fail
    refine (num_any (a + b) (by omega) (by omega) _).mono ?_
    rintro e w12 ⟨⟨v, rfl, hn⟩, hb⟩
    obtain ⟨bgt, agt, kgt, cgt, rfl⟩ := hn.opened
    replace gs := gs.below hb (Nat.le_refl _)
    replace hB := hB.trans (hb.mono hB.size)
    clear hb
    have gt := hn.num
    clear hn
    go_wp2_with fail
    refine (equal_any _ _ (a + b) (len_small (by omega)) _ gs gt).mono ?_
    rintro e w13 ⟨rfl, hb⟩
    replace gs := gs.below hb (Nat.le_refl _)
    replace gt := gt.below hb (Nat.le_refl _)
    replace hB := hB.trans (hb.mono hB.size)
    clear hb
    clear gs gt
    go_wp2_with fail
    refine (num_any (a) (by omega) (by omega) _).mono ?_
    rintro e w14 ⟨⟨v, rfl, hn⟩, hb⟩
    obtain ⟨bf1, af1, kf1, cf1, rfl⟩ := hn.opened
    replace hB := hB.trans (hb.mono hB.size)
    clear hb
    have f1 := hn.num
    clear hn
    go_wp2_with fail
    refine (num_any (b) (by omega) (by omega) _).mono ?_
    rintro e w15 ⟨⟨v, rfl, hn⟩, hb⟩
    obtain ⟨bf2, af2, kf2, cf2, rfl⟩ := hn.opened
    replace f1 := f1.below hb (Nat.le_refl _)
    replace hB := hB.trans (hb.mono hB.size)
    clear hb
    have f2 := hn.num
    clear hn
    go_wp2_with fail
    refine (law_product_any _ _ a b (a * b) rfl (len_small (by omega)) (len_small (by omega)) (len_small (by omega)) _ f1 f2).mono ?_
    rintro e w16 ⟨⟨v, rfl, hn⟩, hb⟩
    obtain ⟨bgs, ags, kgs, cgs, rfl⟩ := hn.opened
    replace f1 := f1.below hb (Nat.le_refl _)
    replace f2 := f2.below hb (Nat.le_refl _)
    replace hB := hB.trans (hb.mono hB.size)
    clear hb
    have gs := hn.num
    clear hn
    clear f1 f2
    go_wp2_with fail
    refine (num_any (a * b) (by omega) (by omega) _).mono ?_
    rintro e w17 ⟨⟨v, rfl, hn⟩, hb⟩
    obtain ⟨bgt, agt, kgt, cgt, rfl⟩ := hn.opened
    replace gs := gs.below hb (Nat.le_refl _)
    replace hB := hB.trans (hb.mono hB.size)
    clear hb
    have gt := hn.num
    clear hn
    go_wp2_with fail
    refine (equal_any _ _ (a * b) (len_small (by omega)) _ gs gt).mono ?_
    rintro e w18 ⟨rfl, hb⟩
    replace gs := gs.below hb (Nat.le_refl _)
    replace gt := gt.below hb (Nat.le_refl _)
    replace hB := hB.trans (hb.mono hB.size)
    clear hb
    clear gs gt
    go_wp2_with fail
    refine (num_any (a) (by omega) (by omega) _).mono ?_
    rintro e w19 ⟨⟨v, rfl, hn⟩, hb⟩
    obtain ⟨bf1, af1, kf1, cf1, rfl⟩ := hn.opened
    replace hB := hB.trans (hb.mono hB.size)
    clear hb
    have f1 := hn.num
    clear hn
    go_wp2_with fail
    refine (num_any (b) (by omega) (by omega) _).mono ?_
    rintro e w20 ⟨⟨v, rfl, hn⟩, hb⟩
    obtain ⟨bf2, af2, kf2, cf2, rfl⟩ := hn.opened
    replace f1 := f1.below hb (Nat.le_refl _)
    replace hB := hB.trans (hb.mono hB.size)
    clear hb
    have f2 := hn.num
    clear hn
    go_wp2_with fail
    refine (law_less_any _ _ a b (a - b) rfl (len_small (by omega)) (len_small (by omega)) (len_small (by omega)) _ f1 f2).mono ?_
    rintro e w21 ⟨⟨v, rfl, hn⟩, hb⟩
    obtain ⟨bgs, ags, kgs, cgs, rfl⟩ := hn.opened
    replace f1 := f1.below hb (Nat.le_refl _)
    replace f2 := f2.below hb (Nat.le_refl _)
    replace hB := hB.trans (hb.mono hB.size)
    clear hb
    have gs := hn.num
    clear hn
    clear f1 f2
    go_wp2_with fail
    refine (num_any (a - b) (by omega) (by omega) _).mono ?_
    rintro e w22 ⟨⟨v, rfl, hn⟩, hb⟩
    obtain ⟨bgt, agt, kgt, cgt, rfl⟩ := hn.opened
    replace gs := gs.below hb (Nat.le_refl _)
    replace hB := hB.trans (hb.mono hB.size)
    clear hb
    have gt := hn.num
    clear hn
    go_wp2_with fail
    refine (equal_any _ _ (a - b) (len_small (by omega)) _ gs gt).mono ?_
    rintro e w23 ⟨rfl, hb⟩
    replace gs := gs.below hb (Nat.le_refl _)
    replace gt := gt.below hb (Nat.le_refl _)
    replace hB := hB.trans (hb.mono hB.size)
    clear hb
    clear gs gt
    by_cases hb0 : b = 0
    · have hbe : (b == 0) = true := by simp [hb0]
      clear hb0
      go_wp2
      go_ret
      exact ⟨rfl, hB⟩
    · obtain ⟨q0, hd, hr1, hr2, hr3, hq1, hr4⟩ := tmod_facts a b hb0
      have hbe : (b == 0) = false := by simp [hb0]
      obtain ⟨r, hr⟩ : ∃ r, a.tmod b = r := ⟨_, rfl⟩
      rw [hr] at hd hr1 hr2 hr3 hr4
      have hbn : b ≠ 0 := hb0
      have rb1 : -2147483647 ≤ r := by omega
      have rb2 : r ≤ 2147483647 := by omega
      by_cases hadj : r ≠ 0 ∧ ¬ (r < 0 ↔ b < 0)
      · have e1 : (r != 0) = true := by simp [hadj.1]
        have e2 : (!decide (r < 0) == decide (b < 0)) = true := by
          have := hadj.2
          rcases Int.lt_or_le r 0 with x | x <;> rcases Int.lt_or_le b 0 with y | y <;> simp [x, y, Int.not_lt.2] <;> omega
        obtain ⟨q, hq⟩ : ∃ q, q = q0 - 1 := ⟨_, rfl⟩
        have hd2 : a = q * b + (r + b) ∧ (0 ≤ r + b ∧ r + b < b ∨ b < r + b ∧ r + b ≤ 0) := by
          refine ⟨by rw [hq, Int.sub_mul]; omega, ?_⟩
          have := hadj.1
          have := hadj.2
          omega
        have HD := Lib.hid hd2
        have hqq : (a - (r + b)).tdiv b = q := by
          have : a - (r + b) = q * b := by omega
          rw [this]; exact tdiv_of_mul q b hb0
        have qb1 : -2147483649 ≤ q := by omega
        have qb2 : q ≤ 2147483649 := by omega
        clear hadj hd hd2 hr1 hr2 hr3 hr4 hq1 hq hb0
        go_wp2_with fail
        refine (num_any (a) (by omega) (by omega) _).mono ?_
        rintro e w24 ⟨⟨v, rfl, hn⟩, hb⟩
        obtain ⟨bf1, af1, kf1, cf1, rfl⟩ := hn.opened
        replace hB := hB.trans (hb.mono hB.size)
        clear hb
        have f1 := hn.num
        clear hn
        go_wp2_with fail
        refine (num_any (b) (by omega) (by omega) _).mono ?_
        rintro e w25 ⟨⟨v, rfl, hn⟩, hb⟩
        obtain ⟨bf2, af2, kf2, cf2, rfl⟩ := hn.opened
        replace f1 := f1.below hb (Nat.le_refl _)
        replace hB := hB.trans (hb.mono hB.size)
        clear hb
        have f2 := hn.num
        clear hn
        go_wp2_with fail
        refine (DivMod_lit _ _ a b q (r + b) HD.out hbn (by omega) (by omega) _ f1 f2).mono ?_
        rintro e w26 ⟨⟨v, v2, rfl, hn, hn2⟩, hb⟩
        obtain ⟨bgq, agq, kgq, cgq, rfl⟩ := hn.opened
        obtain ⟨bgr, agr, kgr, cgr, rfl⟩ := hn2.opened
        replace f1 := f1.below hb (Nat.le_refl _)
        replace f2 := f2.below hb (Nat.le_refl _)
        replace hB := hB.trans (hb.mono hB.size)
        clear hb
        have gq := hn.num
        have gr := hn2.num
        clear hn hn2
        clear f1 f2
        have al := (Below.refl w26.heap.size w26).alloc (Nat.le_refl _) (.cells #[.bool bgq, .slice agq kgq cgq] 26)
        have xq := Bx.new w26 (.bool bgq) (.slice agq kgq cgq)
        replace gq := gq.below al (Nat.le_refl _)
        replace gr := gr.below al (Nat.le_refl _)
        replace hB := hB.alloc hB.size (.cells #[.bool bgq, .slice agq kgq cgq] 26)
        clear al
        have al := (Below.refl (w26.alloc (.cells #[.bool bgq, .slice agq kgq cgq] 26)).heap.size (w26.alloc (.cells #[.bool bgq, .slice agq kgq cgq] 26))).alloc (Nat.le_refl _) (.cells #[.bool bgr, .slice agr kgr cgr] 26)
        have xr := Bx.new (w26.alloc (.cells #[.bool bgq, .slice agq kgq cgq] 26)) (.bool bgr) (.slice agr kgr cgr)
        rw [World.size_alloc] at xr
        replace gq := gq.below al (Nat.le_refl _)
        replace gr := gr.below al (Nat.le_refl _)
        replace xq := xq.on al
        replace hB := hB.alloc hB.size (.cells #[.bool bgr, .slice agr kgr cgr] 26)
        clear al
        obtain ⟨p1, p1'⟩ := xq.cells
        obtain ⟨p2, p2'⟩ := xr.cells
        have HNR := Lib.hid (fun W => num_any (r + b) (by omega) (by omega) W)
        have HNQ := Lib.hid (fun W => num_any q (by omega) (by omega) W)
        have HLR := Lib.hid (show (dig ((r + b)).natAbs).length ≤ 1024 from len_small (by omega))
        have HLQ := Lib.hid (show (dig q.natAbs).length ≤ 1024 from len_small (by omega))
        go_wp2_with fail
        have hs1 : IntKind.i64.wrap (a - (r + b)) = a - (r + b) := Go.IntWalk.i64_in _ (by omega)
        have hs3 : IntKind.i64.wrap q = q := Go.IntWalk.i64_in _ (by omega)
        go_region_held3 (fun w' => w'.cell? ⟨w26.heap.size, 0, none⟩ = some (.bool bgq) ∧ w'.cell? ⟨w26.heap.size, 1, none⟩ = some (.slice agq kgq cgq) ∧ w'.cell? ⟨w26.heap.size + 1, 0, none⟩ = some (.bool bgr) ∧ w'.cell? ⟨w26.heap.size + 1, 1, none⟩ = some (.slice agr kgr cgr))
            (first | go_keep | exact ⟨i1, i1', i2, i2'⟩ | exact ⟨j1, j1', j2, j2'⟩ | exact ⟨l1, l1', l2, l2'⟩ | exact ⟨m1, m1', m2, m2'⟩)
            (first
            | (go_at_call_of 25 (Value.int .i64 (r + b)); refine (HNR.out _).mono ?_; rintro e y1 ⟨⟨v, rfl, hn1⟩, hb1⟩; obtain ⟨bn1, an1, kn1, cn1, rfl⟩ := hn1.opened; have hB1 := hB.drew.trans (hb1.mono hB.size); have xq1 := xq.ond hb1; have xr1 := xr.ond hb1; have gr1 := gr.ond hb1; have gq1 := gq.ond hb1; obtain ⟨i1, i1'⟩ := xq1.cells; obtain ⟨i2, i2'⟩ := xr1.cells)
            | (go_at_call_of 30 (Value.agg #[.bool bgr, .slice agr kgr cgr]); refine (equal_any _ _ _ HLR.out _ gr1 hn1.num).mono ?_; rintro e y2 ⟨rfl, hb2⟩; have hB2 := hB1.trans (hb2.mono hB1.size); have xq2 := xq1.on hb2; have xr2 := xr1.on hb2; have gq2 := gq1.below hb2 (Nat.le_refl _); obtain ⟨j1, j1'⟩ := xq2.cells; obtain ⟨j2, j2'⟩ := xr2.cells)
            | (go_at_call_of 25 (Value.int .i64 q); refine (HNQ.out _).mono ?_; rintro e y3 ⟨⟨v, rfl, hn3⟩, hb3⟩; obtain ⟨bn3, an3, kn3, cn3, rfl⟩ := hn3.opened; have hB3 := hB2.trans (hb3.mono hB2.size); have xq3 := xq2.on hb3; have xr3 := xr2.on hb3; have gq3 := gq2.below hb3 (Nat.le_refl _); obtain ⟨l1, l1'⟩ := xq3.cells; obtain ⟨l2, l2'⟩ := xr3.cells)
            | (go_at_call_of 30 (Value.agg #[.bool bgq, .slice agq kgq cgq]); refine (equal_any _ _ _ HLQ.out _ gq3 hn3.num).mono ?_; rintro e y4 ⟨rfl, hb4⟩; have hB4 := hB3.trans (hb4.mono hB3.size); have xq4 := xq3.on hb4; have xr4 := xr3.on hb4; obtain ⟨m1, m1'⟩ := xq4.cells; obtain ⟨m2, m2'⟩ := xr4.cells))
        go_wp2
        go_ret
        exact ⟨rfl, hB4⟩

      · have e3 : (r != 0) = false ∨ ((r != 0) = true ∧ (!decide (r < 0) == decide (b < 0)) = false) := by
          by_cases hr0 : r = 0
          · left; simp [hr0]
          · right
            refine ⟨by simp [hr0], ?_⟩
            have : r < 0 ↔ b < 0 := by
              by_cases x : r < 0 ↔ b < 0
              · exact x
              · exact absurd ⟨hr0, x⟩ hadj
            rcases Int.lt_or_le r 0 with x | x <;> rcases Int.lt_or_le b 0 with y | y <;> simp [x, y, Int.not_lt.2] <;> omega
        obtain ⟨q, hq⟩ : ∃ q, q = q0 := ⟨_, rfl⟩
        have hd2 : a = q * b + r ∧ (0 ≤ r ∧ r < b ∨ b < r ∧ r ≤ 0) := by
          refine ⟨by rw [hq]; exact hd, ?_⟩
          by_cases hr0 : r = 0
          · omega
          · have : r < 0 ↔ b < 0 := by
              by_cases x : r < 0 ↔ b < 0
              · exact x
              · exact absurd ⟨hr0, x⟩ hadj
            omega
        have HD := Lib.hid hd2
        have hqq : (a - r).tdiv b = q := by
          have : a - r = q * b := by omega
          rw [this]; exact tdiv_of_mul q b hb0
        have qb1 : -2147483649 ≤ q := by omega
        have qb2 : q ≤ 2147483649 := by omega
        clear hadj hd hd2 hr1 hr2 hr3 hr4 hq1 hq hb0
        rcases e3 with e3 | ⟨e3, e4⟩
        all_goals
          go_wp2_with fail
          refine (num_any (a) (by omega) (by omega) _).mono ?_
          rintro e w24 ⟨⟨v, rfl, hn⟩, hb⟩
          obtain ⟨bf1, af1, kf1, cf1, rfl⟩ := hn.opened
          replace hB := hB.trans (hb.mono hB.size)
          clear hb
          have f1 := hn.num
          clear hn
          go_wp2_with fail
          refine (num_any (b) (by omega) (by omega) _).mono ?_
          rintro e w25 ⟨⟨v, rfl, hn⟩, hb⟩
          obtain ⟨bf2, af2, kf2, cf2, rfl⟩ := hn.opened
          replace f1 := f1.below hb (Nat.le_refl _)
          replace hB := hB.trans (hb.mono hB.size)
          clear hb
          have f2 := hn.num
          clear hn
          go_wp2_with fail
          refine (DivMod_lit _ _ a b q r HD.out hbn (by omega) (by omega) _ f1 f2).mono ?_
          rintro e w26 ⟨⟨v, v2, rfl, hn, hn2⟩, hb⟩
          obtain ⟨bgq, agq, kgq, cgq, rfl⟩ := hn.opened
          obtain ⟨bgr, agr, kgr, cgr, rfl⟩ := hn2.opened
          replace f1 := f1.below hb (Nat.le_refl _)
          replace f2 := f2.below hb (Nat.le_refl _)
          replace hB := hB.trans (hb.mono hB.size)
          clear hb
          have gq := hn.num
          have gr := hn2.num
          clear hn hn2
          clear f1 f2
          have al := (Below.refl w26.heap.size w26).alloc (Nat.le_refl _) (.cells #[.bool bgq, .slice agq kgq cgq] 26)
          have xq := Bx.new w26 (.bool bgq) (.slice agq kgq cgq)
          replace gq := gq.below al (Nat.le_refl _)
          replace gr := gr.below al (Nat.le_refl _)
          replace hB := hB.alloc hB.size (.cells #[.bool bgq, .slice agq kgq cgq] 26)
          clear al
          have al := (Below.refl (w26.alloc (.cells #[.bool bgq, .slice agq kgq cgq] 26)).heap.size (w26.alloc (.cells #[.bool bgq, .slice agq kgq cgq] 26))).alloc (Nat.le_refl _) (.cells #[.bool bgr, .slice agr kgr cgr] 26)
          have xr := Bx.new (w26.alloc (.cells #[.bool bgq, .slice agq kgq cgq] 26)) (.bool bgr) (.slice agr kgr cgr)
          rw [World.size_alloc] at xr
          replace gq := gq.below al (Nat.le_refl _)
          replace gr := gr.below al (Nat.le_refl _)
          replace xq := xq.on al
          replace hB := hB.alloc hB.size (.cells #[.bool bgr, .slice agr kgr cgr] 26)
          clear al
          obtain ⟨p1, p1'⟩ := xq.cells
          obtain ⟨p2, p2'⟩ := xr.cells
          have HNR := Lib.hid (fun W => num_any r (by omega) (by omega) W)
          have HNQ := Lib.hid (fun W => num_any q (by omega) (by omega) W)
          have HLR := Lib.hid (show (dig (r).natAbs).length ≤ 1024 from len_small (by omega))
          have HLQ := Lib.hid (show (dig q.natAbs).length ≤ 1024 from len_small (by omega))
          go_wp2_with fail
          have hs1 : IntKind.i64.wrap (a - r) = a - r := Go.IntWalk.i64_in _ (by omega)
          have hs3 : IntKind.i64.wrap q = q := Go.IntWalk.i64_in _ (by omega)
          go_region_held3 (fun w' => w'.cell? ⟨w26.heap.size, 0, none⟩ = some (.bool bgq) ∧ w'.cell? ⟨w26.heap.size, 1, none⟩ = some (.slice agq kgq cgq) ∧ w'.cell? ⟨w26.heap.size + 1, 0, none⟩ = some (.bool bgr) ∧ w'.cell? ⟨w26.heap.size + 1, 1, none⟩ = some (.slice agr kgr cgr))
              (first | go_keep | exact ⟨i1, i1', i2, i2'⟩ | exact ⟨j1, j1', j2, j2'⟩ | exact ⟨l1, l1', l2, l2'⟩ | exact ⟨m1, m1', m2, m2'⟩)
              (first
              | (go_at_call_of 25 (Value.int .i64 r); refine (HNR.out _).mono ?_; rintro e y1 ⟨⟨v, rfl, hn1⟩, hb1⟩; obtain ⟨bn1, an1, kn1, cn1, rfl⟩ := hn1.opened; have hB1 := hB.drew.trans (hb1.mono hB.size); have xq1 := xq.ond hb1; have xr1 := xr.ond hb1; have gr1 := gr.ond hb1; have gq1 := gq.ond hb1; obtain ⟨i1, i1'⟩ := xq1.cells; obtain ⟨i2, i2'⟩ := xr1.cells)
              | (go_at_call_of 30 (Value.agg #[.bool bgr, .slice agr kgr cgr]); refine (equal_any _ _ _ HLR.out _ gr1 hn1.num).mono ?_; rintro e y2 ⟨rfl, hb2⟩; have hB2 := hB1.trans (hb2.mono hB1.size); have xq2 := xq1.on hb2; have xr2 := xr1.on hb2; have gq2 := gq1.below hb2 (Nat.le_refl _); obtain ⟨j1, j1'⟩ := xq2.cells; obtain ⟨j2, j2'⟩ := xr2.cells)
              | (go_at_call_of 25 (Value.int .i64 q); refine (HNQ.out _).mono ?_; rintro e y3 ⟨⟨v, rfl, hn3⟩, hb3⟩; obtain ⟨bn3, an3, kn3, cn3, rfl⟩ := hn3.opened; have hB3 := hB2.trans (hb3.mono hB2.size); have xq3 := xq2.on hb3; have xr3 := xr2.on hb3; have gq3 := gq2.below hb3 (Nat.le_refl _); obtain ⟨l1, l1'⟩ := xq3.cells; obtain ⟨l2, l2'⟩ := xr3.cells)
              | (go_at_call_of 30 (Value.agg #[.bool bgq, .slice agq kgq cgq]); refine (equal_any _ _ _ HLQ.out _ gq3 hn3.num).mono ?_; rintro e y4 ⟨rfl, hb4⟩; have hB4 := hB3.trans (hb4.mono hB3.size); have xq4 := xq3.on hb4; have xr4 := xr3.on hb4; obtain ⟨m1, m1'⟩ := xq4.cells; obtain ⟨m2, m2'⟩ := xr4.cells))
          go_wp2
          go_ret
          exact ⟨rfl, hB4⟩



end Go.Proofs.Ytodmbklednehbaa
