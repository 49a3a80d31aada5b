/-
'awake'.
-/
import Derived.Test.YtodmbklednehbaaRefInt
import Derived.Outline
namespace Go.Proofs.Ytodmbklednehbaa
open Go.RowKit Wh

theorem NumF.opened {B : Nat} {W : World} {v : Value} {z : Int} (h : NumF B W v z) : ∃ b a k c, v = .agg #[.bool b, .slice a k c] := by
  obtain ⟨s, rfl, hl⟩ := h
  obtain ⟨a, c, rfl⟩ := lf_slice hl
  exact ⟨_, _, _, _, rfl⟩

theorem len_small {n : Nat} (h : n < 18446744073709551616) : (dig n).length ≤ 1024 := Nat.le_trans ((length_dig_le n 4).2 h) (by omega)

theorem Add_lit (va vb : Value) (a b c : Int) (hc : a + b = c) (ha : a.natAbs < 18446744073709551616) (hb : b.natAbs < 18446744073709551616) (hcs : c.natAbs < 18446744073709551616) (w : World) (h : Num w va a) (g : Num w vb b) :
    Calls Try.prog 13 #[va, vb] w fun e w' => (∃ v, e = .returned (.tuple #[v, .int .i64 0]) ∧ NumF w.heap.size w' v c) ∧ Below w.heap.size w w' := by
  have := Add_ok va vb a b (len_small ha) (len_small hb) w h g (by rw [hc]; exact len_small hcs)
  rwa [hc] at this

theorem Gcd_lit (va vb : Value) (a b c : Int) (hc : ((Nat.gcd a.natAbs b.natAbs : Nat) : Int) = c) (ha : a.natAbs < 18446744073709551616) (hb : b.natAbs < 18446744073709551616) (w : World) (h : Num w va a) (g : Num w vb b) :
    Calls Try.prog 36 #[va, vb] w fun e w' => (∃ v, e = .returned (.tuple #[v, .int .i64 0]) ∧ NumF w.heap.size w' v c) ∧ Below w.heap.size w w' := by
  have hg : (Nat.gcd a.natAbs b.natAbs) < 18446744073709551616 := by
    rcases Nat.eq_zero_or_pos a.natAbs with h0 | h0
    · rw [h0, Nat.gcd_zero_left]; exact hb
    · exact Nat.lt_of_le_of_lt (Nat.gcd_le_left _ h0) ha
  have := Gcd_ok va vb a b (len_small ha) (len_small hb) w h g (by rw [Int.natAbs_natCast]; exact len_small hg)
  rwa [hc] at this

theorem DivMod_lit (va vb : Value) (a b q r : Int) (hd : a = q * b + r ∧ (0 ≤ r ∧ r < b ∨ b < r ∧ r ≤ 0)) (h0 : b ≠ 0) (ha : a.natAbs < 18446744073709551616) (hb : b.natAbs < 18446744073709551616) (w : World) (h : Num w va a) (g : Num w vb b) :
    Calls Try.prog 29 #[va, vb] w fun e w' => (∃ v v2, e = .returned (.tuple #[v, v2, .int .i64 0]) ∧ NumF w.heap.size w' v q ∧ NumF w.heap.size w' v2 r) ∧ Below w.heap.size w w' := by
  refine (DivMod_any va vb a b (len_small ha) (len_small hb) h0 w h g).mono ?_
  rintro e w' ⟨⟨v, v2, q', r', rfl, hr, h1, h2⟩, hB⟩
  obtain ⟨rfl, rfl⟩ := hr.uniq' hd
  exact ⟨⟨v, v2, rfl, h1, h2⟩, hB⟩

theorem txt_ten : txt (-10) = [45, 49, 48] := by
  have e : Wt.dig (-10 : Int).natAbs = [0, 1] := by
    show Wt.dig 10 = [0, 1]
    rw [Wt.dig_pos (by decide), Wt.dig_pos (by decide), Wt.dig_zero]
  unfold txt
  rw [if_neg (by decide), if_pos (by decide), e]
  rfl

theorem Text_ten (v : Value) (w : World) (h : Num w v (-10)) :
    Calls Try.prog 21 #[v] w fun e w' => e = .returned (.tuple #[.string ⟨#[45, 49, 48]⟩, .int .i64 0]) ∧ Below w.heap.size w w' := by
  have := Text_any v (-10) (len_small (by decide)) w h
  rwa [txt_ten] at this

theorem Add_odd (v : Value) (w : World) (h : Num w v 1) :
    Calls Try.prog 13 #[.agg #[.bool true, .slice none 0 0], v] w fun e w' => e = .returned (.tuple #[zeroW, .int .i64 2]) ∧ Below w.heap.size w w' := by
  obtain ⟨s, rfl, hl⟩ := h
  exact Add_bad true _ [] _ s _ w (Lim.nil w) hl (by simp [vld])

set_option maxRecDepth 100000 in
set_option maxHeartbeats 8000000 in
theorem awake_any (w : World) : Calls Try.prog 22 #[] w fun e w' => e = .returned (.bool true) ∧ Below w.heap.size w w' := by
  have hB := Below.refl w.heap.size w
  go_enter Try.func22, Try.ntmps22
  go_wp2_with fail
  refine (num_any (65535) (by omega) (by omega) _).mono ?_
  rintro e w1 ⟨⟨v, rfl, hn⟩, hb⟩
  obtain ⟨bf1, af1, kf1, cf1, rfl⟩ := hn.opened
  replace hB := hB.trans (hb.mono hB.size)
  clear hb
  have f1 := hn.num
  clear hn
  go_wp2_with fail
  refine (num_any (1) (by omega) (by omega) _).mono ?_
  rintro e w2 ⟨⟨v, rfl, hn⟩, hb⟩
  obtain ⟨bf2, af2, kf2, cf2, rfl⟩ := hn.opened
  replace f1 := f1.below hb (Nat.le_refl _)
  replace hB := hB.trans (hb.mono hB.size)
  clear hb
  have f2 := hn.num
  clear hn
  go_wp2_with fail
  refine (Add_lit _ _ 65535 1 65536 rfl (by decide) (by decide) (by decide) _ f1 f2).mono ?_
  rintro e w3 ⟨⟨v, rfl, hn⟩, hb⟩
  obtain ⟨br1, ar1, kr1, cr1, rfl⟩ := hn.opened
  replace f1 := f1.below hb (Nat.le_refl _)
  replace f2 := f2.below hb (Nat.le_refl _)
  replace hB := hB.trans (hb.mono hB.size)
  clear hb
  have r1 := hn.num
  clear hn
  clear f1 f2
  have al := (Below.refl w3.heap.size w3).alloc (Nat.le_refl _) (.cells #[.bool br1, .slice ar1 kr1 cr1] 26)
  have x1 := Bx.new w3 (.bool br1) (.slice ar1 kr1 cr1)
  replace r1 := r1.below al (Nat.le_refl _)
  replace hB := hB.alloc hB.size (.cells #[.bool br1, .slice ar1 kr1 cr1] 26)
  clear al
  go_wp2_with fail
  refine (num_any (7) (by omega) (by omega) _).mono ?_
  rintro e w4 ⟨⟨v, rfl, hn⟩, hb⟩
  obtain ⟨bf1, af1, kf1, cf1, rfl⟩ := hn.opened
  replace r1 := r1.below hb (Nat.le_refl _)
  replace x1 := x1.on hb
  replace hB := hB.trans (hb.mono hB.size)
  clear hb
  have f1 := hn.num
  clear hn
  go_wp2_with fail
  refine (num_any (-2) (by omega) (by omega) _).mono ?_
  rintro e w5 ⟨⟨v, rfl, hn⟩, hb⟩
  obtain ⟨bf2, af2, kf2, cf2, rfl⟩ := hn.opened
  replace r1 := r1.below hb (Nat.le_refl _)
  replace f1 := f1.below hb (Nat.le_refl _)
  replace x1 := x1.on hb
  replace hB := hB.trans (hb.mono hB.size)
  clear hb
  have f2 := hn.num
  clear hn
  go_wp2_with fail
  refine (DivMod_lit _ _ (7) (-2) (-4) (-1) (by decide) (by decide) (by decide) (by decide) _ f1 f2).mono ?_
  rintro e w6 ⟨⟨v, v2, rfl, hn, hn2⟩, hb⟩
  obtain ⟨br2, ar2, kr2, cr2, rfl⟩ := hn.opened
  obtain ⟨br3, ar3, kr3, cr3, rfl⟩ := hn2.opened
  replace r1 := r1.below hb (Nat.le_refl _)
  replace f1 := f1.below hb (Nat.le_refl _)
  replace f2 := f2.below hb (Nat.le_refl _)
  replace x1 := x1.on hb
  replace hB := hB.trans (hb.mono hB.size)
  clear hb
  have r2 := hn.num
  have r3 := hn2.num
  clear hn hn2
  clear f1 f2
  have al := (Below.refl w6.heap.size w6).alloc (Nat.le_refl _) (.cells #[.bool br2, .slice ar2 kr2 cr2] 26)
  have x2 := Bx.new w6 (.bool br2) (.slice ar2 kr2 cr2)
  replace r1 := r1.below al (Nat.le_refl _)
  replace r2 := r2.below al (Nat.le_refl _)
  replace r3 := r3.below al (Nat.le_refl _)
  replace x1 := x1.on al
  replace hB := hB.alloc hB.size (.cells #[.bool br2, .slice ar2 kr2 cr2] 26)
  clear al
  have al := (Below.refl (w6.alloc (.cells #[.bool br2, .slice ar2 kr2 cr2] 26)).heap.size (w6.alloc (.cells #[.bool br2, .slice ar2 kr2 cr2] 26))).alloc (Nat.le_refl _) (.cells #[.bool br3, .slice ar3 kr3 cr3] 26)
  have x3 := Bx.new (w6.alloc (.cells #[.bool br2, .slice ar2 kr2 cr2] 26)) (.bool br3) (.slice ar3 kr3 cr3)
  rw [World.size_alloc] at x3
  replace r1 := r1.below al (Nat.le_refl _)
  replace r2 := r2.below al (Nat.le_refl _)
  replace r3 := r3.below al (Nat.le_refl _)
  replace x1 := x1.on al
  replace x2 := x2.on al
  replace hB := hB.alloc hB.size (.cells #[.bool br3, .slice ar3 kr3 cr3] 26)
  clear al
  go_wp2_with fail
  refine (num_any (-7) (by omega) (by omega) _).mono ?_
  rintro e w7 ⟨⟨v, rfl, hn⟩, hb⟩
  obtain ⟨bf1, af1, kf1, cf1, rfl⟩ := hn.opened
  replace r1 := r1.below hb (Nat.le_refl _)
  replace r2 := r2.below hb (Nat.le_refl _)
  replace r3 := r3.below hb (Nat.le_refl _)
  replace x1 := x1.on hb
  replace x2 := x2.on hb
  replace x3 := x3.on hb
  replace hB := hB.trans (hb.mono hB.size)
  clear hb
  have f1 := hn.num
  clear hn
  go_wp2_with fail
  refine (num_any (2) (by omega) (by omega) _).mono ?_
  rintro e w8 ⟨⟨v, rfl, hn⟩, hb⟩
  obtain ⟨bf2, af2, kf2, cf2, rfl⟩ := hn.opened
  replace r1 := r1.below hb (Nat.le_refl _)
  replace r2 := r2.below hb (Nat.le_refl _)
  replace r3 := r3.below hb (Nat.le_refl _)
  replace f1 := f1.below hb (Nat.le_refl _)
  replace x1 := x1.on hb
  replace x2 := x2.on hb
  replace x3 := x3.on hb
  replace hB := hB.trans (hb.mono hB.size)
  clear hb
  have f2 := hn.num
  clear hn
  go_wp2_with fail
  refine (DivMod_lit _ _ (-7) (2) (-4) (1) (by decide) (by decide) (by decide) (by decide) _ f1 f2).mono ?_
  rintro e w9 ⟨⟨v, v2, rfl, hn, hn2⟩, hb⟩
  obtain ⟨br4, ar4, kr4, cr4, rfl⟩ := hn.opened
  obtain ⟨br5, ar5, kr5, cr5, rfl⟩ := hn2.opened
  replace r1 := r1.below hb (Nat.le_refl _)
  replace r2 := r2.below hb (Nat.le_refl _)
  replace r3 := r3.below hb (Nat.le_refl _)
  replace f1 := f1.below hb (Nat.le_refl _)
  replace f2 := f2.below hb (Nat.le_refl _)
  replace x1 := x1.on hb
  replace x2 := x2.on hb
  replace x3 := x3.on hb
  replace hB := hB.trans (hb.mono hB.size)
  clear hb
  have r4 := hn.num
  have r5 := hn2.num
  clear hn hn2
  clear f1 f2
  have al := (Below.refl w9.heap.size w9).alloc (Nat.le_refl _) (.cells #[.bool br4, .slice ar4 kr4 cr4] 26)
  have x4 := Bx.new w9 (.bool br4) (.slice ar4 kr4 cr4)
  replace r1 := r1.below al (Nat.le_refl _)
  replace r2 := r2.below al (Nat.le_refl _)
  replace r3 := r3.below al (Nat.le_refl _)
  replace r4 := r4.below al (Nat.le_refl _)
  replace r5 := r5.below al (Nat.le_refl _)
  replace x1 := x1.on al
  replace x2 := x2.on al
  replace x3 := x3.on al
  replace hB := hB.alloc hB.size (.cells #[.bool br4, .slice ar4 kr4 cr4] 26)
  clear al
  have al := (Below.refl (w9.alloc (.cells #[.bool br4, .slice ar4 kr4 cr4] 26)).heap.size (w9.alloc (.cells #[.bool br4, .slice ar4 kr4 cr4] 26))).alloc (Nat.le_refl _) (.cells #[.bool br5, .slice ar5 kr5 cr5] 26)
  have x5 := Bx.new (w9.alloc (.cells #[.bool br4, .slice ar4 kr4 cr4] 26)) (.bool br5) (.slice ar5 kr5 cr5)
  rw [World.size_alloc] at x5
  replace r1 := r1.below al (Nat.le_refl _)
  replace r2 := r2.below al (Nat.le_refl _)
  replace r3 := r3.below al (Nat.le_refl _)
  replace r4 := r4.below al (Nat.le_refl _)
  replace r5 := r5.below al (Nat.le_refl _)
  replace x1 := x1.on al
  replace x2 := x2.on al
  replace x3 := x3.on al
  replace x4 := x4.on al
  replace hB := hB.alloc hB.size (.cells #[.bool br5, .slice ar5 kr5 cr5] 26)
  clear al
  go_wp2_with fail
  refine (num_any (-7) (by omega) (by omega) _).mono ?_
  rintro e w10 ⟨⟨v, rfl, hn⟩, hb⟩
  obtain ⟨bf1, af1, kf1, cf1, rfl⟩ := hn.opened
  replace r1 := r1.below hb (Nat.le_refl _)
  replace r2 := r2.below hb (Nat.le_refl _)
  replace r3 := r3.below hb (Nat.le_refl _)
  replace r4 := r4.below hb (Nat.le_refl _)
  replace r5 := r5.below hb (Nat.le_refl _)
  replace x1 := x1.on hb
  replace x2 := x2.on hb
  replace x3 := x3.on hb
  replace x4 := x4.on hb
  replace x5 := x5.on hb
  replace hB := hB.trans (hb.mono hB.size)
  clear hb
  have f1 := hn.num
  clear hn
  go_wp2_with fail
  refine (num_any (-2) (by omega) (by omega) _).mono ?_
  rintro e w11 ⟨⟨v, rfl, hn⟩, hb⟩
  obtain ⟨bf2, af2, kf2, cf2, rfl⟩ := hn.opened
  replace r1 := r1.below hb (Nat.le_refl _)
  replace r2 := r2.below hb (Nat.le_refl _)
  replace r3 := r3.below hb (Nat.le_refl _)
  replace r4 := r4.below hb (Nat.le_refl _)
  replace r5 := r5.below hb (Nat.le_refl _)
  replace f1 := f1.below hb (Nat.le_refl _)
  replace x1 := x1.on hb
  replace x2 := x2.on hb
  replace x3 := x3.on hb
  replace x4 := x4.on hb
  replace x5 := x5.on hb
  replace hB := hB.trans (hb.mono hB.size)
  clear hb
  have f2 := hn.num
  clear hn
  go_wp2_with fail
  refine (DivMod_lit _ _ (-7) (-2) (3) (-1) (by decide) (by decide) (by decide) (by decide) _ f1 f2).mono ?_
  rintro e w12 ⟨⟨v, v2, rfl, hn, hn2⟩, hb⟩
  obtain ⟨br6, ar6, kr6, cr6, rfl⟩ := hn.opened
  obtain ⟨br7, ar7, kr7, cr7, rfl⟩ := hn2.opened
  replace r1 := r1.below hb (Nat.le_refl _)
  replace r2 := r2.below hb (Nat.le_refl _)
  replace r3 := r3.below hb (Nat.le_refl _)
  replace r4 := r4.below hb (Nat.le_refl _)
  replace r5 := r5.below hb (Nat.le_refl _)
  replace f1 := f1.below hb (Nat.le_refl _)
  replace f2 := f2.below hb (Nat.le_refl _)
  replace x1 := x1.on hb
  replace x2 := x2.on hb
  replace x3 := x3.on hb
  replace x4 := x4.on hb
  replace x5 := x5.on hb
  replace hB := hB.trans (hb.mono hB.size)
  clear hb
  have r6 := hn.num
  have r7 := hn2.num
  clear hn hn2
  clear f1 f2
  have al := (Below.refl w12.heap.size w12).alloc (Nat.le_refl _) (.cells #[.bool br6, .slice ar6 kr6 cr6] 26)
  have x6 := Bx.new w12 (.bool br6) (.slice ar6 kr6 cr6)
  replace r1 := r1.below al (Nat.le_refl _)
  replace r2 := r2.below al (Nat.le_refl _)
  replace r3 := r3.below al (Nat.le_refl _)
  replace r4 := r4.below al (Nat.le_refl _)
  replace r5 := r5.below al (Nat.le_refl _)
  replace r6 := r6.below al (Nat.le_refl _)
  replace r7 := r7.below al (Nat.le_refl _)
  replace x1 := x1.on al
  replace x2 := x2.on al
  replace x3 := x3.on al
  replace x4 := x4.on al
  replace x5 := x5.on al
  replace hB := hB.alloc hB.size (.cells #[.bool br6, .slice ar6 kr6 cr6] 26)
  clear al
  have al := (Below.refl (w12.alloc (.cells #[.bool br6, .slice ar6 kr6 cr6] 26)).heap.size (w12.alloc (.cells #[.bool br6, .slice ar6 kr6 cr6] 26))).alloc (Nat.le_refl _) (.cells #[.bool br7, .slice ar7 kr7 cr7] 26)
  have x7 := Bx.new (w12.alloc (.cells #[.bool br6, .slice ar6 kr6 cr6] 26)) (.bool br7) (.slice ar7 kr7 cr7)
  rw [World.size_alloc] at x7
  replace r1 := r1.below al (Nat.le_refl _)
  replace r2 := r2.below al (Nat.le_refl _)
  replace r3 := r3.below al (Nat.le_refl _)
  replace r4 := r4.below al (Nat.le_refl _)
  replace r5 := r5.below al (Nat.le_refl _)
  replace r6 := r6.below al (Nat.le_refl _)
  replace r7 := r7.below al (Nat.le_refl _)
  replace x1 := x1.on al
  replace x2 := x2.on al
  replace x3 := x3.on al
  replace x4 := x4.on al
  replace x5 := x5.on al
  replace x6 := x6.on al
  replace hB := hB.alloc hB.size (.cells #[.bool br7, .slice ar7 kr7 cr7] 26)
  clear al
  go_wp2_with fail
  refine (num_any (-12) (by omega) (by omega) _).mono ?_
  rintro e w13 ⟨⟨v, rfl, hn⟩, hb⟩
  obtain ⟨bf1, af1, kf1, cf1, rfl⟩ := hn.opened
  replace r1 := r1.below hb (Nat.le_refl _)
  replace r2 := r2.below hb (Nat.le_refl _)
  replace r3 := r3.below hb (Nat.le_refl _)
  replace r4 := r4.below hb (Nat.le_refl _)
  replace r5 := r5.below hb (Nat.le_refl _)
  replace r6 := r6.below hb (Nat.le_refl _)
  replace r7 := r7.below hb (Nat.le_refl _)
  replace x1 := x1.on hb
  replace x2 := x2.on hb
  replace x3 := x3.on hb
  replace x4 := x4.on hb
  replace x5 := x5.on hb
  replace x6 := x6.on hb
  replace x7 := x7.on hb
  replace hB := hB.trans (hb.mono hB.size)
  clear hb
  have f1 := hn.num
  clear hn
  go_wp2_with fail
  refine (num_any (18) (by omega) (by omega) _).mono ?_
  rintro e w14 ⟨⟨v, rfl, hn⟩, hb⟩
  obtain ⟨bf2, af2, kf2, cf2, rfl⟩ := hn.opened
  replace r1 := r1.below hb (Nat.le_refl _)
  replace r2 := r2.below hb (Nat.le_refl _)
  replace r3 := r3.below hb (Nat.le_refl _)
  replace r4 := r4.below hb (Nat.le_refl _)
  replace r5 := r5.below hb (Nat.le_refl _)
  replace r6 := r6.below hb (Nat.le_refl _)
  replace r7 := r7.below hb (Nat.le_refl _)
  replace f1 := f1.below hb (Nat.le_refl _)
  replace x1 := x1.on hb
  replace x2 := x2.on hb
  replace x3 := x3.on hb
  replace x4 := x4.on hb
  replace x5 := x5.on hb
  replace x6 := x6.on hb
  replace x7 := x7.on hb
  replace hB := hB.trans (hb.mono hB.size)
  clear hb
  have f2 := hn.num
  clear hn
  go_wp2_with fail
  refine (Gcd_lit _ _ (-12) 18 6 (by decide) (by decide) (by decide) _ f1 f2).mono ?_
  rintro e w15 ⟨⟨v, rfl, hn⟩, hb⟩
  obtain ⟨br8, ar8, kr8, cr8, rfl⟩ := hn.opened
  replace r1 := r1.below hb (Nat.le_refl _)
  replace r2 := r2.below hb (Nat.le_refl _)
  replace r3 := r3.below hb (Nat.le_refl _)
  replace r4 := r4.below hb (Nat.le_refl _)
  replace r5 := r5.below hb (Nat.le_refl _)
  replace r6 := r6.below hb (Nat.le_refl _)
  replace r7 := r7.below hb (Nat.le_refl _)
  replace f1 := f1.below hb (Nat.le_refl _)
  replace f2 := f2.below hb (Nat.le_refl _)
  replace x1 := x1.on hb
  replace x2 := x2.on hb
  replace x3 := x3.on hb
  replace x4 := x4.on hb
  replace x5 := x5.on hb
  replace x6 := x6.on hb
  replace x7 := x7.on hb
  replace hB := hB.trans (hb.mono hB.size)
  clear hb
  have r8 := hn.num
  clear hn
  clear f1 f2
  have al := (Below.refl w15.heap.size w15).alloc (Nat.le_refl _) (.cells #[.bool br8, .slice ar8 kr8 cr8] 26)
  have x8 := Bx.new w15 (.bool br8) (.slice ar8 kr8 cr8)
  replace r1 := r1.below al (Nat.le_refl _)
  replace r2 := r2.below al (Nat.le_refl _)
  replace r3 := r3.below al (Nat.le_refl _)
  replace r4 := r4.below al (Nat.le_refl _)
  replace r5 := r5.below al (Nat.le_refl _)
  replace r6 := r6.below al (Nat.le_refl _)
  replace r7 := r7.below al (Nat.le_refl _)
  replace r8 := r8.below al (Nat.le_refl _)
  replace x1 := x1.on al
  replace x2 := x2.on al
  replace x3 := x3.on al
  replace x4 := x4.on al
  replace x5 := x5.on al
  replace x6 := x6.on al
  replace x7 := x7.on al
  replace hB := hB.alloc hB.size (.cells #[.bool br8, .slice ar8 kr8 cr8] 26)
  clear al
  go_wp2_with fail
  refine (num_any (-10) (by omega) (by omega) _).mono ?_
  rintro e w16 ⟨⟨v, rfl, hn⟩, hb⟩
  obtain ⟨bf1, af1, kf1, cf1, rfl⟩ := hn.opened
  replace r1 := r1.below hb (Nat.le_refl _)
  replace r2 := r2.below hb (Nat.le_refl _)
  replace r3 := r3.below hb (Nat.le_refl _)
  replace r4 := r4.below hb (Nat.le_refl _)
  replace r5 := r5.below hb (Nat.le_refl _)
  replace r6 := r6.below hb (Nat.le_refl _)
  replace r7 := r7.below hb (Nat.le_refl _)
  replace r8 := r8.below hb (Nat.le_refl _)
  replace x1 := x1.on hb
  replace x2 := x2.on hb
  replace x3 := x3.on hb
  replace x4 := x4.on hb
  replace x5 := x5.on hb
  replace x6 := x6.on hb
  replace x7 := x7.on hb
  replace x8 := x8.on hb
  replace hB := hB.trans (hb.mono hB.size)
  clear hb
  have f1 := hn.num
  clear hn
  go_wp2_with fail
  refine (Text_ten _ _ f1).mono ?_
  rintro e w17 ⟨rfl, hb⟩
  replace r1 := r1.below hb (Nat.le_refl _)
  replace r2 := r2.below hb (Nat.le_refl _)
  replace r3 := r3.below hb (Nat.le_refl _)
  replace r4 := r4.below hb (Nat.le_refl _)
  replace r5 := r5.below hb (Nat.le_refl _)
  replace r6 := r6.below hb (Nat.le_refl _)
  replace r7 := r7.below hb (Nat.le_refl _)
  replace r8 := r8.below hb (Nat.le_refl _)
  replace f1 := f1.below hb (Nat.le_refl _)
  replace x1 := x1.on hb
  replace x2 := x2.on hb
  replace x3 := x3.on hb
  replace x4 := x4.on hb
  replace x5 := x5.on hb
  replace x6 := x6.on hb
  replace x7 := x7.on hb
  replace x8 := x8.on hb
  replace hB := hB.trans (hb.mono hB.size)
  clear hb
  clear f1
  go_wp2_with fail
  refine (Parse_007 _).mono ?_
  rintro e w18 ⟨rfl, hb⟩
  replace r1 := r1.below hb (Nat.le_refl _)
  replace r2 := r2.below hb (Nat.le_refl _)
  replace r3 := r3.below hb (Nat.le_refl _)
  replace r4 := r4.below hb (Nat.le_refl _)
  replace r5 := r5.below hb (Nat.le_refl _)
  replace r6 := r6.below hb (Nat.le_refl _)
  replace r7 := r7.below hb (Nat.le_refl _)
  replace r8 := r8.below hb (Nat.le_refl _)
  replace x1 := x1.on hb
  replace x2 := x2.on hb
  replace x3 := x3.on hb
  replace x4 := x4.on hb
  replace x5 := x5.on hb
  replace x6 := x6.on hb
  replace x7 := x7.on hb
  replace x8 := x8.on hb
  replace hB := hB.trans (hb.mono hB.size)
  clear hb
  have al := (Below.refl w18.heap.size w18).alloc (Nat.le_refl _) (.cells #[.bool false, .slice none 0 0] 26)
  replace r1 := r1.below al (Nat.le_refl _)
  replace r2 := r2.below al (Nat.le_refl _)
  replace r3 := r3.below al (Nat.le_refl _)
  replace r4 := r4.below al (Nat.le_refl _)
  replace r5 := r5.below al (Nat.le_refl _)
  replace r6 := r6.below al (Nat.le_refl _)
  replace r7 := r7.below al (Nat.le_refl _)
  replace r8 := r8.below al (Nat.le_refl _)
  replace x1 := x1.on al
  replace x2 := x2.on al
  replace x3 := x3.on al
  replace x4 := x4.on al
  replace x5 := x5.on al
  replace x6 := x6.on al
  replace x7 := x7.on al
  replace x8 := x8.on al
  replace hB := hB.alloc hB.size (.cells #[.bool false, .slice none 0 0] 26)
  clear al
  go_wp2_with fail
  refine (num_any (1) (by omega) (by omega) _).mono ?_
  rintro e w19 ⟨⟨v, rfl, hn⟩, hb⟩
  obtain ⟨bf2, af2, kf2, cf2, rfl⟩ := hn.opened
  replace r1 := r1.below hb (Nat.le_refl _)
  replace r2 := r2.below hb (Nat.le_refl _)
  replace r3 := r3.below hb (Nat.le_refl _)
  replace r4 := r4.below hb (Nat.le_refl _)
  replace r5 := r5.below hb (Nat.le_refl _)
  replace r6 := r6.below hb (Nat.le_refl _)
  replace r7 := r7.below hb (Nat.le_refl _)
  replace r8 := r8.below hb (Nat.le_refl _)
  replace x1 := x1.on hb
  replace x2 := x2.on hb
  replace x3 := x3.on hb
  replace x4 := x4.on hb
  replace x5 := x5.on hb
  replace x6 := x6.on hb
  replace x7 := x7.on hb
  replace x8 := x8.on hb
  replace hB := hB.trans (hb.mono hB.size)
  clear hb
  have f2 := hn.num
  clear hn
  go_wp2_with fail
  refine (Add_odd _ _ f2).mono ?_
  rintro e w20 ⟨rfl, hb⟩
  replace r1 := r1.below hb (Nat.le_refl _)
  replace r2 := r2.below hb (Nat.le_refl _)
  replace r3 := r3.below hb (Nat.le_refl _)
  replace r4 := r4.below hb (Nat.le_refl _)
  replace r5 := r5.below hb (Nat.le_refl _)
  replace r6 := r6.below hb (Nat.le_refl _)
  replace r7 := r7.below hb (Nat.le_refl _)
  replace r8 := r8.below hb (Nat.le_refl _)
  replace f2 := f2.below hb (Nat.le_refl _)
  replace x1 := x1.on hb
  replace x2 := x2.on hb
  replace x3 := x3.on hb
  replace x4 := x4.on hb
  replace x5 := x5.on hb
  replace x6 := x6.on hb
  replace x7 := x7.on hb
  replace x8 := x8.on hb
  replace hB := hB.trans (hb.mono hB.size)
  clear hb
  clear f2
  have al := (Below.refl w20.heap.size w20).alloc (Nat.le_refl _) (.cells #[.bool false, .slice none 0 0] 26)
  replace r1 := r1.below al (Nat.le_refl _)
  replace r2 := r2.below al (Nat.le_refl _)
  replace r3 := r3.below al (Nat.le_refl _)
  replace r4 := r4.below al (Nat.le_refl _)
  replace r5 := r5.below al (Nat.le_refl _)
  replace r6 := r6.below al (Nat.le_refl _)
  replace r7 := r7.below al (Nat.le_refl _)
  replace r8 := r8.below al (Nat.le_refl _)
  replace x1 := x1.on al
  replace x2 := x2.on al
  replace x3 := x3.on al
  replace x4 := x4.on al
  replace x5 := x5.on al
  replace x6 := x6.on al
  replace x7 := x7.on al
  replace x8 := x8.on al
  replace hB := hB.alloc hB.size (.cells #[.bool false, .slice none 0 0] 26)
  clear al
  go_wp2_with fail
  refine (num_any (-65537) (by omega) (by omega) _).mono ?_
  rintro e w21 ⟨⟨v, rfl, hn⟩, hb⟩
  obtain ⟨bf1, af1, kf1, cf1, rfl⟩ := hn.opened
  replace r1 := r1.below hb (Nat.le_refl _)
  replace r2 := r2.below hb (Nat.le_refl _)
  replace r3 := r3.below hb (Nat.le_refl _)
  replace r4 := r4.below hb (Nat.le_refl _)
  replace r5 := r5.below hb (Nat.le_refl _)
  replace r6 := r6.below hb (Nat.le_refl _)
  replace r7 := r7.below hb (Nat.le_refl _)
  replace r8 := r8.below hb (Nat.le_refl _)
  replace x1 := x1.on hb
  replace x2 := x2.on hb
  replace x3 := x3.on hb
  replace x4 := x4.on hb
  replace x5 := x5.on hb
  replace x6 := x6.on hb
  replace x7 := x7.on hb
  replace x8 := x8.on hb
  replace hB := hB.trans (hb.mono hB.size)
  clear hb
  have f1 := hn.num
  clear hn
  obtain ⟨p1, p1'⟩ := x1.cells
  go_wp2_with fail
  refine (is_any _ (-65537) (by omega) (by omega) _ f1).mono ?_
  rintro e w22 ⟨rfl, hb⟩
  replace r1 := r1.below hb (Nat.le_refl _)
  replace r2 := r2.below hb (Nat.le_refl _)
  replace r3 := r3.below hb (Nat.le_refl _)
  replace r4 := r4.below hb (Nat.le_refl _)
  replace r5 := r5.below hb (Nat.le_refl _)
  replace r6 := r6.below hb (Nat.le_refl _)
  replace r7 := r7.below hb (Nat.le_refl _)
  replace r8 := r8.below hb (Nat.le_refl _)
  replace f1 := f1.below hb (Nat.le_refl _)
  replace x1 := x1.on hb
  replace x2 := x2.on hb
  replace x3 := x3.on hb
  replace x4 := x4.on hb
  replace x5 := x5.on hb
  replace x6 := x6.on hb
  replace x7 := x7.on hb
  replace x8 := x8.on hb
  replace hB := hB.trans (hb.mono hB.size)
  clear hb
  clear f1
  obtain ⟨p, p'⟩ := x1.cells
  go_wp2_with fail
  refine (is_any _ (65536) (by omega) (by omega) _ r1).mono ?_
  rintro e w23 ⟨rfl, hb⟩
  replace r1 := r1.below hb (Nat.le_refl _)
  replace r2 := r2.below hb (Nat.le_refl _)
  replace r3 := r3.below hb (Nat.le_refl _)
  replace r4 := r4.below hb (Nat.le_refl _)
  replace r5 := r5.below hb (Nat.le_refl _)
  replace r6 := r6.below hb (Nat.le_refl _)
  replace r7 := r7.below hb (Nat.le_refl _)
  replace r8 := r8.below hb (Nat.le_refl _)
  replace x1 := x1.on hb
  replace x2 := x2.on hb
  replace x3 := x3.on hb
  replace x4 := x4.on hb
  replace x5 := x5.on hb
  replace x6 := x6.on hb
  replace x7 := x7.on hb
  replace x8 := x8.on hb
  replace hB := hB.trans (hb.mono hB.size)
  clear hb
  clear p p'
  clear r1 x1
  obtain ⟨p, p'⟩ := x2.cells
  go_wp2_with fail
  refine (is_any _ (-4) (by omega) (by omega) _ r2).mono ?_
  rintro e w24 ⟨rfl, hb⟩
  replace r2 := r2.below hb (Nat.le_refl _)
  replace r3 := r3.below hb (Nat.le_refl _)
  replace r4 := r4.below hb (Nat.le_refl _)
  replace r5 := r5.below hb (Nat.le_refl _)
  replace r6 := r6.below hb (Nat.le_refl _)
  replace r7 := r7.below hb (Nat.le_refl _)
  replace r8 := r8.below hb (Nat.le_refl _)
  replace x2 := x2.on hb
  replace x3 := x3.on hb
  replace x4 := x4.on hb
  replace x5 := x5.on hb
  replace x6 := x6.on hb
  replace x7 := x7.on hb
  replace x8 := x8.on hb
  replace hB := hB.trans (hb.mono hB.size)
  clear hb
  clear p p'
  clear r2 x2
  obtain ⟨p, p'⟩ := x3.cells
  go_wp2_with fail
  refine (is_any _ (-1) (by omega) (by omega) _ r3).mono ?_
  rintro e w25 ⟨rfl, hb⟩
  replace r3 := r3.below hb (Nat.le_refl _)
  replace r4 := r4.below hb (Nat.le_refl _)
  replace r5 := r5.below hb (Nat.le_refl _)
  replace r6 := r6.below hb (Nat.le_refl _)
  replace r7 := r7.below hb (Nat.le_refl _)
  replace r8 := r8.below hb (Nat.le_refl _)
  replace x3 := x3.on hb
  replace x4 := x4.on hb
  replace x5 := x5.on hb
  replace x6 := x6.on hb
  replace x7 := x7.on hb
  replace x8 := x8.on hb
  replace hB := hB.trans (hb.mono hB.size)
  clear hb
  clear p p'
  clear r3 x3
  obtain ⟨p, p'⟩ := x4.cells
  go_wp2_with fail
  refine (is_any _ (-4) (by omega) (by omega) _ r4).mono ?_
  rintro e w26 ⟨rfl, hb⟩
  replace r4 := r4.below hb (Nat.le_refl _)
  replace r5 := r5.below hb (Nat.le_refl _)
  replace r6 := r6.below hb (Nat.le_refl _)
  replace r7 := r7.below hb (Nat.le_refl _)
  replace r8 := r8.below hb (Nat.le_refl _)
  replace x4 := x4.on hb
  replace x5 := x5.on hb
  replace x6 := x6.on hb
  replace x7 := x7.on hb
  replace x8 := x8.on hb
  replace hB := hB.trans (hb.mono hB.size)
  clear hb
  clear p p'
  clear r4 x4
  obtain ⟨p, p'⟩ := x5.cells
  go_wp2_with fail
  refine (is_any _ (1) (by omega) (by omega) _ r5).mono ?_
  rintro e w27 ⟨rfl, hb⟩
  replace r5 := r5.below hb (Nat.le_refl _)
  replace r6 := r6.below hb (Nat.le_refl _)
  replace r7 := r7.below hb (Nat.le_refl _)
  replace r8 := r8.below hb (Nat.le_refl _)
  replace x5 := x5.on hb
  replace x6 := x6.on hb
  replace x7 := x7.on hb
  replace x8 := x8.on hb
  replace hB := hB.trans (hb.mono hB.size)
  clear hb
  clear p p'
  clear r5 x5
  obtain ⟨p, p'⟩ := x6.cells
  go_wp2_with fail
  refine (is_any _ (3) (by omega) (by omega) _ r6).mono ?_
  rintro e w28 ⟨rfl, hb⟩
  replace r6 := r6.below hb (Nat.le_refl _)
  replace r7 := r7.below hb (Nat.le_refl _)
  replace r8 := r8.below hb (Nat.le_refl _)
  replace x6 := x6.on hb
  replace x7 := x7.on hb
  replace x8 := x8.on hb
  replace hB := hB.trans (hb.mono hB.size)
  clear hb
  clear p p'
  clear r6 x6
  obtain ⟨p, p'⟩ := x7.cells
  go_wp2_with fail
  refine (is_any _ (-1) (by omega) (by omega) _ r7).mono ?_
  rintro e w29 ⟨rfl, hb⟩
  replace r7 := r7.below hb (Nat.le_refl _)
  replace r8 := r8.below hb (Nat.le_refl _)
  replace x7 := x7.on hb
  replace x8 := x8.on hb
  replace hB := hB.trans (hb.mono hB.size)
  clear hb
  clear p p'
  clear r7 x7
  obtain ⟨p, p'⟩ := x8.cells
  go_wp2_with fail
  refine (is_any _ (6) (by omega) (by omega) _ r8).mono ?_
  rintro e w30 ⟨rfl, hb⟩
  replace r8 := r8.below hb (Nat.le_refl _)
  replace x8 := x8.on hb
  replace hB := hB.trans (hb.mono hB.size)
  clear hb
  clear p p'
  clear r8 x8
  go_wp2
  go_ret
  exact ⟨rfl, hB⟩

end Go.Proofs.Ytodmbklednehbaa
