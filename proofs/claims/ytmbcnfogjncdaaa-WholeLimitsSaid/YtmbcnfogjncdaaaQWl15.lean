/- A part of the proofs about fractions. -/
import Derived.Below
import Derived.ChangeSame
import Derived.ChangeSlices
import Derived.Lib.SmallJoins
import Derived.OpenShut
import Derived.Outline
import Derived.ProofKit
import Derived.RegionTactic
import Derived.SizedLaws
import Derived.Test.YtmbcnfogjncdaaaRows
import Derived.WalkKit
import Derived.Test.YtmbcnfogjncdaaaQWl1
import Derived.Test.YtmbcnfogjncdaaaQWl10
import Derived.Test.YtmbcnfogjncdaaaQWl11
import Derived.Test.YtmbcnfogjncdaaaQWl13
set_option maxRecDepth 100000
set_option maxHeartbeats 8000000
namespace Go.Proofs.Ytmbcnfogjncdaaa
open Go.RowKit Wh
theorem NumF.opened {B : Nat} {W : World} {v : Value} {z : Int} (h : NumF B W v z) : ∃ b a k c, v = .agg #[.bool b, .slice a k c] := by
 obtain ⟨s, rfl, hl⟩ := h
 obtain ⟨a, c, rfl⟩ := lf_slice hl
 exact ⟨_, _, _, _, rfl⟩
theorem len_small {n : Nat} (h : n < 18446744073709551616) : (dig n).length ≤ 1024 := Nat.le_trans ((length_dig_le n 4).2 h) (by omega)
theorem Add_lit (va vb : Value) (a b c : Int) (hc : a + b = c) (ha : a.natAbs < 18446744073709551616) (hb : b.natAbs < 18446744073709551616) (hcs : c.natAbs < 18446744073709551616) (w : World) (h : Num w va a) (g : Num w vb b) :
  Calls Try.prog 5 #[va, vb] w fun e w' => (∃ v, e = .returned (.tuple #[v, .int .i64 0]) ∧ NumF w.heap.size w' v c) ∧ Below w.heap.size w w' := by
 have := Add_ok va vb a b (len_small ha) (len_small hb) w h g (by rw [hc]; exact len_small hcs)
 rwa [hc] at this
theorem Gcd_lit (va vb : Value) (a b c : Int) (hc : ((Nat.gcd a.natAbs b.natAbs : Nat) : Int) = c) (ha : a.natAbs < 18446744073709551616) (hb : b.natAbs < 18446744073709551616) (w : World) (h : Num w va a) (g : Num w vb b) :
  Calls Try.prog 30 #[va, vb] w fun e w' => (∃ v, e = .returned (.tuple #[v, .int .i64 0]) ∧ NumF w.heap.size w' v c) ∧ Below w.heap.size w w' := by
 have hg : (Nat.gcd a.natAbs b.natAbs) < 18446744073709551616 := by
  rcases Nat.eq_zero_or_pos a.natAbs with h0 | h0
  · rw [h0, Nat.gcd_zero_left]; exact hb
  · exact Nat.lt_of_le_of_lt (Nat.gcd_le_left _ h0) ha
 have := Gcd_ok va vb a b (len_small ha) (len_small hb) w h g (by rw [Int.natAbs_natCast]; exact len_small hg)
 rwa [hc] at this
theorem DivMod_lit (va vb : Value) (a b q r : Int) (hd : a = q * b + r ∧ (0 ≤ r ∧ r < b ∨ b < r ∧ r ≤ 0)) (h0 : b ≠ 0) (ha : a.natAbs < 18446744073709551616) (hb : b.natAbs < 18446744073709551616) (w : World) (h : Num w va a) (g : Num w vb b) :
  Calls Try.prog 29 #[va, vb] w fun e w' => (∃ v v2, e = .returned (.tuple #[v, v2, .int .i64 0]) ∧ NumF w.heap.size w' v q ∧ NumF w.heap.size w' v2 r) ∧ Below w.heap.size w w' := by
 refine (DivMod_any va vb a b (len_small ha) (len_small hb) h0 w h g).mono ?_
 rintro e w' ⟨⟨v, v2, q', r', rfl, hr, h1, h2⟩, hB⟩
 obtain ⟨rfl, rfl⟩ := hr.uniq' hd
 exact ⟨⟨v, v2, rfl, h1, h2⟩, hB⟩
theorem txt_ten : txt (-10) = [45, 49, 48] := by
 have e : Wt.dig (-10 : Int).natAbs = [0, 1] := by
  show Wt.dig 10 = [0, 1]
  rw [Wt.dig_pos (by decide), Wt.dig_pos (by decide), Wt.dig_zero]
 unfold txt
 rw [if_neg (by decide), if_pos (by decide), e]
 rfl
theorem Text_ten (v : Value) (w : World) (h : Num w v (-10)) :
  Calls Try.prog 13 #[v] w fun e w' => e = .returned (.tuple #[.string ⟨#[45, 49, 48]⟩, .int .i64 0]) ∧ Below w.heap.size w w' := by
 have := Text_any v (-10) (len_small (by decide)) w h
 rwa [txt_ten] at this
theorem Add_odd (v : Value) (w : World) (h : Num w v 1) :
  Calls Try.prog 5 #[.agg #[.bool true, .slice none 0 0], v] w fun e w' => e = .returned (.tuple #[zeroW, .int .i64 2]) ∧ Below w.heap.size w w' := by
 obtain ⟨s, rfl, hl⟩ := h
 exact Add_bad true _ [] _ s _ w (Lim.nil w) hl (by simp [vld])
theorem awake_any (w : World) : Calls Try.prog 14 #[] w fun e w' => e = .returned (.bool true) ∧ Below w.heap.size w w' := by
 have hB := Below.refl w.heap.size w
 go_enter Try.func14, Try.ntmps14
 go_wp2_with fail
 refine (num_any (65535) (by omega) (by omega) _).mono ?_
 rintro e w1 ⟨⟨v, rfl, hn⟩, hb⟩
 obtain ⟨bf1, af1, kf1, cf1, rfl⟩ := hn.opened
 replace hB := hB.trans (hb.mono hB.size); clear hb
 have f1 := hn.num
 clear hn
 go_wp2_with fail
 refine (num_any (1) (by omega) (by omega) _).mono ?_
 rintro e w2 ⟨⟨v, rfl, hn⟩, hb⟩
 obtain ⟨bf2, af2, kf2, cf2, rfl⟩ := hn.opened
 replace f1 := f1.below hb (Nat.le_refl _); replace hB := hB.trans (hb.mono hB.size); clear hb
 have f2 := hn.num
 clear hn
 go_wp2_with fail
 refine (Add_lit _ _ 65535 1 65536 rfl (by decide) (by decide) (by decide) _ f1 f2).mono ?_
 rintro e w3 ⟨⟨v, rfl, hn⟩, hb⟩
 obtain ⟨br1, ar1, kr1, cr1, rfl⟩ := hn.opened
 replace f1 := f1.below hb (Nat.le_refl _); replace f2 := f2.below hb (Nat.le_refl _); replace hB := hB.trans (hb.mono hB.size); clear hb
 have r1 := hn.num
 clear hn f1 f2
 have al := (Below.refl w3.heap.size w3).alloc (Nat.le_refl _) (.cells #[.bool br1, .slice ar1 kr1 cr1] 26)
 have x1 := Bx.new w3 (.bool br1) (.slice ar1 kr1 cr1)
 replace r1 := r1.below al (Nat.le_refl _); replace hB := hB.alloc hB.size (.cells #[.bool br1, .slice ar1 kr1 cr1] 26); clear al
 go_wp2_with fail
 refine (num_any (7) (by omega) (by omega) _).mono ?_
 rintro e w4 ⟨⟨v, rfl, hn⟩, hb⟩
 obtain ⟨bf1, af1, kf1, cf1, rfl⟩ := hn.opened
 replace r1 := r1.below hb (Nat.le_refl _); replace x1 := x1.on hb; replace hB := hB.trans (hb.mono hB.size); clear hb
 have f1 := hn.num
 clear hn
 go_wp2_with fail
 refine (num_any (-2) (by omega) (by omega) _).mono ?_
 rintro e w5 ⟨⟨v, rfl, hn⟩, hb⟩
 obtain ⟨bf2, af2, kf2, cf2, rfl⟩ := hn.opened
 replace r1 := r1.below hb (Nat.le_refl _); replace f1 := f1.below hb (Nat.le_refl _); replace x1 := x1.on hb; replace hB := hB.trans (hb.mono hB.size); clear hb
 have f2 := hn.num
 clear hn
 go_wp2_with fail
 refine (DivMod_lit _ _ (7) (-2) (-4) (-1) (by decide) (by decide) (by decide) (by decide) _ f1 f2).mono ?_
 rintro e w6 ⟨⟨v, v2, rfl, hn, hn2⟩, hb⟩
 obtain ⟨br2, ar2, kr2, cr2, rfl⟩ := hn.opened
 obtain ⟨br3, ar3, kr3, cr3, rfl⟩ := hn2.opened
 replace r1 := r1.below hb (Nat.le_refl _); replace f1 := f1.below hb (Nat.le_refl _); replace f2 := f2.below hb (Nat.le_refl _); replace x1 := x1.on hb; replace hB := hB.trans (hb.mono hB.size); clear hb
 have r2 := hn.num
 have r3 := hn2.num
 clear hn hn2 f1 f2
 have al := (Below.refl w6.heap.size w6).alloc (Nat.le_refl _) (.cells #[.bool br2, .slice ar2 kr2 cr2] 26)
 have x2 := Bx.new w6 (.bool br2) (.slice ar2 kr2 cr2)
 replace r1 := r1.below al (Nat.le_refl _); replace r2 := r2.below al (Nat.le_refl _); replace r3 := r3.below al (Nat.le_refl _); replace x1 := x1.on al; replace hB := hB.alloc hB.size (.cells #[.bool br2, .slice ar2 kr2 cr2] 26); clear al
 have al := (Below.refl (w6.alloc (.cells #[.bool br2, .slice ar2 kr2 cr2] 26)).heap.size (w6.alloc (.cells #[.bool br2, .slice ar2 kr2 cr2] 26))).alloc (Nat.le_refl _) (.cells #[.bool br3, .slice ar3 kr3 cr3] 26)
 have x3 := Bx.new (w6.alloc (.cells #[.bool br2, .slice ar2 kr2 cr2] 26)) (.bool br3) (.slice ar3 kr3 cr3)
 rw [World.size_alloc] at x3
 replace r1 := r1.below al (Nat.le_refl _); replace r2 := r2.below al (Nat.le_refl _); replace r3 := r3.below al (Nat.le_refl _); replace x1 := x1.on al; replace x2 := x2.on al; replace hB := hB.alloc hB.size (.cells #[.bool br3, .slice ar3 kr3 cr3] 26); clear al
 go_wp2_with fail
 refine (num_any (-7) (by omega) (by omega) _).mono ?_
 rintro e w7 ⟨⟨v, rfl, hn⟩, hb⟩
 obtain ⟨bf1, af1, kf1, cf1, rfl⟩ := hn.opened
 replace r1 := r1.below hb (Nat.le_refl _); replace r2 := r2.below hb (Nat.le_refl _); replace r3 := r3.below hb (Nat.le_refl _); replace x1 := x1.on hb; replace x2 := x2.on hb; replace x3 := x3.on hb; replace hB := hB.trans (hb.mono hB.size); clear hb
 have f1 := hn.num
 clear hn
 go_wp2_with fail
 refine (num_any (2) (by omega) (by omega) _).mono ?_
 rintro e w8 ⟨⟨v, rfl, hn⟩, hb⟩
 obtain ⟨bf2, af2, kf2, cf2, rfl⟩ := hn.opened
 replace r1 := r1.below hb (Nat.le_refl _); replace r2 := r2.below hb (Nat.le_refl _); replace r3 := r3.below hb (Nat.le_refl _); replace f1 := f1.below hb (Nat.le_refl _); replace x1 := x1.on hb; replace x2 := x2.on hb; replace x3 := x3.on hb; replace hB := hB.trans (hb.mono hB.size); clear hb
 have f2 := hn.num
 clear hn
 go_wp2_with fail
 refine (DivMod_lit _ _ (-7) (2) (-4) (1) (by decide) (by decide) (by decide) (by decide) _ f1 f2).mono ?_
 rintro e w9 ⟨⟨v, v2, rfl, hn, hn2⟩, hb⟩
 obtain ⟨br4, ar4, kr4, cr4, rfl⟩ := hn.opened
 obtain ⟨br5, ar5, kr5, cr5, rfl⟩ := hn2.opened
 replace r1 := r1.below hb (Nat.le_refl _); replace r2 := r2.below hb (Nat.le_refl _); replace r3 := r3.below hb (Nat.le_refl _); replace f1 := f1.below hb (Nat.le_refl _); replace f2 := f2.below hb (Nat.le_refl _); replace x1 := x1.on hb; replace x2 := x2.on hb; replace x3 := x3.on hb; replace hB := hB.trans (hb.mono hB.size); clear hb
 have r4 := hn.num
 have r5 := hn2.num
 clear hn hn2 f1 f2
 have al := (Below.refl w9.heap.size w9).alloc (Nat.le_refl _) (.cells #[.bool br4, .slice ar4 kr4 cr4] 26)
 have x4 := Bx.new w9 (.bool br4) (.slice ar4 kr4 cr4)
 replace r1 := r1.below al (Nat.le_refl _); replace r2 := r2.below al (Nat.le_refl _); replace r3 := r3.below al (Nat.le_refl _); replace r4 := r4.below al (Nat.le_refl _); replace r5 := r5.below al (Nat.le_refl _); replace x1 := x1.on al; replace x2 := x2.on al; replace x3 := x3.on al; replace hB := hB.alloc hB.size (.cells #[.bool br4, .slice ar4 kr4 cr4] 26); clear al
 have al := (Below.refl (w9.alloc (.cells #[.bool br4, .slice ar4 kr4 cr4] 26)).heap.size (w9.alloc (.cells #[.bool br4, .slice ar4 kr4 cr4] 26))).alloc (Nat.le_refl _) (.cells #[.bool br5, .slice ar5 kr5 cr5] 26)
 have x5 := Bx.new (w9.alloc (.cells #[.bool br4, .slice ar4 kr4 cr4] 26)) (.bool br5) (.slice ar5 kr5 cr5)
 rw [World.size_alloc] at x5
 replace r1 := r1.below al (Nat.le_refl _); replace r2 := r2.below al (Nat.le_refl _); replace r3 := r3.below al (Nat.le_refl _); replace r4 := r4.below al (Nat.le_refl _); replace r5 := r5.below al (Nat.le_refl _); replace x1 := x1.on al; replace x2 := x2.on al; replace x3 := x3.on al; replace x4 := x4.on al; replace hB := hB.alloc hB.size (.cells #[.bool br5, .slice ar5 kr5 cr5] 26); clear al
 go_wp2_with fail
 refine (num_any (-7) (by omega) (by omega) _).mono ?_
 rintro e w10 ⟨⟨v, rfl, hn⟩, hb⟩
 obtain ⟨bf1, af1, kf1, cf1, rfl⟩ := hn.opened
 replace r1 := r1.below hb (Nat.le_refl _); replace r2 := r2.below hb (Nat.le_refl _); replace r3 := r3.below hb (Nat.le_refl _); replace r4 := r4.below hb (Nat.le_refl _); replace r5 := r5.below hb (Nat.le_refl _); replace x1 := x1.on hb; replace x2 := x2.on hb; replace x3 := x3.on hb; replace x4 := x4.on hb; replace x5 := x5.on hb; replace hB := hB.trans (hb.mono hB.size); clear hb
 have f1 := hn.num
 clear hn
 go_wp2_with fail
 refine (num_any (-2) (by omega) (by omega) _).mono ?_
 rintro e w11 ⟨⟨v, rfl, hn⟩, hb⟩
 obtain ⟨bf2, af2, kf2, cf2, rfl⟩ := hn.opened
 replace r1 := r1.below hb (Nat.le_refl _); replace r2 := r2.below hb (Nat.le_refl _); replace r3 := r3.below hb (Nat.le_refl _); replace r4 := r4.below hb (Nat.le_refl _); replace r5 := r5.below hb (Nat.le_refl _); replace f1 := f1.below hb (Nat.le_refl _); replace x1 := x1.on hb; replace x2 := x2.on hb; replace x3 := x3.on hb; replace x4 := x4.on hb; replace x5 := x5.on hb; replace hB := hB.trans (hb.mono hB.size); clear hb
 have f2 := hn.num
 clear hn
 go_wp2_with fail
 refine (DivMod_lit _ _ (-7) (-2) (3) (-1) (by decide) (by decide) (by decide) (by decide) _ f1 f2).mono ?_
 rintro e w12 ⟨⟨v, v2, rfl, hn, hn2⟩, hb⟩
 obtain ⟨br6, ar6, kr6, cr6, rfl⟩ := hn.opened
 obtain ⟨br7, ar7, kr7, cr7, rfl⟩ := hn2.opened
 replace r1 := r1.below hb (Nat.le_refl _); replace r2 := r2.below hb (Nat.le_refl _); replace r3 := r3.below hb (Nat.le_refl _); replace r4 := r4.below hb (Nat.le_refl _); replace r5 := r5.below hb (Nat.le_refl _); replace f1 := f1.below hb (Nat.le_refl _); replace f2 := f2.below hb (Nat.le_refl _); replace x1 := x1.on hb; replace x2 := x2.on hb; replace x3 := x3.on hb; replace x4 := x4.on hb; replace x5 := x5.on hb; replace hB := hB.trans (hb.mono hB.size); clear hb
 have r6 := hn.num
 have r7 := hn2.num
 clear hn hn2 f1 f2
 have al := (Below.refl w12.heap.size w12).alloc (Nat.le_refl _) (.cells #[.bool br6, .slice ar6 kr6 cr6] 26)
 have x6 := Bx.new w12 (.bool br6) (.slice ar6 kr6 cr6)
 replace r1 := r1.below al (Nat.le_refl _); replace r2 := r2.below al (Nat.le_refl _); replace r3 := r3.below al (Nat.le_refl _); replace r4 := r4.below al (Nat.le_refl _); replace r5 := r5.below al (Nat.le_refl _); replace r6 := r6.below al (Nat.le_refl _); replace r7 := r7.below al (Nat.le_refl _); replace x1 := x1.on al; replace x2 := x2.on al; replace x3 := x3.on al; replace x4 := x4.on al; replace x5 := x5.on al; replace hB := hB.alloc hB.size (.cells #[.bool br6, .slice ar6 kr6 cr6] 26); clear al
 have al := (Below.refl (w12.alloc (.cells #[.bool br6, .slice ar6 kr6 cr6] 26)).heap.size (w12.alloc (.cells #[.bool br6, .slice ar6 kr6 cr6] 26))).alloc (Nat.le_refl _) (.cells #[.bool br7, .slice ar7 kr7 cr7] 26)
 have x7 := Bx.new (w12.alloc (.cells #[.bool br6, .slice ar6 kr6 cr6] 26)) (.bool br7) (.slice ar7 kr7 cr7)
 rw [World.size_alloc] at x7
 replace r1 := r1.below al (Nat.le_refl _); replace r2 := r2.below al (Nat.le_refl _); replace r3 := r3.below al (Nat.le_refl _); replace r4 := r4.below al (Nat.le_refl _); replace r5 := r5.below al (Nat.le_refl _); replace r6 := r6.below al (Nat.le_refl _); replace r7 := r7.below al (Nat.le_refl _); replace x1 := x1.on al; replace x2 := x2.on al; replace x3 := x3.on al; replace x4 := x4.on al; replace x5 := x5.on al; replace x6 := x6.on al; replace hB := hB.alloc hB.size (.cells #[.bool br7, .slice ar7 kr7 cr7] 26); clear al
 go_wp2_with fail
 refine (num_any (-12) (by omega) (by omega) _).mono ?_
 rintro e w13 ⟨⟨v, rfl, hn⟩, hb⟩
 obtain ⟨bf1, af1, kf1, cf1, rfl⟩ := hn.opened
 replace r1 := r1.below hb (Nat.le_refl _); replace r2 := r2.below hb (Nat.le_refl _); replace r3 := r3.below hb (Nat.le_refl _); replace r4 := r4.below hb (Nat.le_refl _); replace r5 := r5.below hb (Nat.le_refl _); replace r6 := r6.below hb (Nat.le_refl _); replace r7 := r7.below hb (Nat.le_refl _); replace x1 := x1.on hb; replace x2 := x2.on hb; replace x3 := x3.on hb; replace x4 := x4.on hb; replace x5 := x5.on hb; replace x6 := x6.on hb; replace x7 := x7.on hb; replace hB := hB.trans (hb.mono hB.size); clear hb
 have f1 := hn.num
 clear hn
 go_wp2_with fail
 refine (num_any (18) (by omega) (by omega) _).mono ?_
 rintro e w14 ⟨⟨v, rfl, hn⟩, hb⟩
 obtain ⟨bf2, af2, kf2, cf2, rfl⟩ := hn.opened
 replace r1 := r1.below hb (Nat.le_refl _); replace r2 := r2.below hb (Nat.le_refl _); replace r3 := r3.below hb (Nat.le_refl _); replace r4 := r4.below hb (Nat.le_refl _); replace r5 := r5.below hb (Nat.le_refl _); replace r6 := r6.below hb (Nat.le_refl _); replace r7 := r7.below hb (Nat.le_refl _); replace f1 := f1.below hb (Nat.le_refl _); replace x1 := x1.on hb; replace x2 := x2.on hb; replace x3 := x3.on hb; replace x4 := x4.on hb; replace x5 := x5.on hb; replace x6 := x6.on hb; replace x7 := x7.on hb; replace hB := hB.trans (hb.mono hB.size); clear hb
 have f2 := hn.num
 clear hn
 go_wp2_with fail
 refine (Gcd_lit _ _ (-12) 18 6 (by decide) (by decide) (by decide) _ f1 f2).mono ?_
 rintro e w15 ⟨⟨v, rfl, hn⟩, hb⟩
 obtain ⟨br8, ar8, kr8, cr8, rfl⟩ := hn.opened
 replace r1 := r1.below hb (Nat.le_refl _); replace r2 := r2.below hb (Nat.le_refl _); replace r3 := r3.below hb (Nat.le_refl _); replace r4 := r4.below hb (Nat.le_refl _); replace r5 := r5.below hb (Nat.le_refl _); replace r6 := r6.below hb (Nat.le_refl _); replace r7 := r7.below hb (Nat.le_refl _); replace f1 := f1.below hb (Nat.le_refl _); replace f2 := f2.below hb (Nat.le_refl _); replace x1 := x1.on hb; replace x2 := x2.on hb; replace x3 := x3.on hb; replace x4 := x4.on hb; replace x5 := x5.on hb; replace x6 := x6.on hb; replace x7 := x7.on hb; replace hB := hB.trans (hb.mono hB.size); clear hb
 have r8 := hn.num
 clear hn f1 f2
 have al := (Below.refl w15.heap.size w15).alloc (Nat.le_refl _) (.cells #[.bool br8, .slice ar8 kr8 cr8] 26)
 have x8 := Bx.new w15 (.bool br8) (.slice ar8 kr8 cr8)
 replace r1 := r1.below al (Nat.le_refl _); replace r2 := r2.below al (Nat.le_refl _); replace r3 := r3.below al (Nat.le_refl _); replace r4 := r4.below al (Nat.le_refl _); replace r5 := r5.below al (Nat.le_refl _); replace r6 := r6.below al (Nat.le_refl _); replace r7 := r7.below al (Nat.le_refl _); replace r8 := r8.below al (Nat.le_refl _); replace x1 := x1.on al; replace x2 := x2.on al; replace x3 := x3.on al; replace x4 := x4.on al; replace x5 := x5.on al; replace x6 := x6.on al; replace x7 := x7.on al; replace hB := hB.alloc hB.size (.cells #[.bool br8, .slice ar8 kr8 cr8] 26); clear al
 go_wp2_with fail
 refine (num_any (-10) (by omega) (by omega) _).mono ?_
 rintro e w16 ⟨⟨v, rfl, hn⟩, hb⟩
 obtain ⟨bf1, af1, kf1, cf1, rfl⟩ := hn.opened
 replace r1 := r1.below hb (Nat.le_refl _); replace r2 := r2.below hb (Nat.le_refl _); replace r3 := r3.below hb (Nat.le_refl _); replace r4 := r4.below hb (Nat.le_refl _); replace r5 := r5.below hb (Nat.le_refl _); replace r6 := r6.below hb (Nat.le_refl _); replace r7 := r7.below hb (Nat.le_refl _); replace r8 := r8.below hb (Nat.le_refl _); replace x1 := x1.on hb; replace x2 := x2.on hb; replace x3 := x3.on hb; replace x4 := x4.on hb; replace x5 := x5.on hb; replace x6 := x6.on hb; replace x7 := x7.on hb; replace x8 := x8.on hb; replace hB := hB.trans (hb.mono hB.size); clear hb
 have f1 := hn.num
 clear hn
 go_wp2_with fail
 refine (Text_ten _ _ f1).mono ?_
 rintro e w17 ⟨rfl, hb⟩
 replace r1 := r1.below hb (Nat.le_refl _); replace r2 := r2.below hb (Nat.le_refl _); replace r3 := r3.below hb (Nat.le_refl _); replace r4 := r4.below hb (Nat.le_refl _); replace r5 := r5.below hb (Nat.le_refl _); replace r6 := r6.below hb (Nat.le_refl _); replace r7 := r7.below hb (Nat.le_refl _); replace r8 := r8.below hb (Nat.le_refl _); replace f1 := f1.below hb (Nat.le_refl _); replace x1 := x1.on hb; replace x2 := x2.on hb; replace x3 := x3.on hb; replace x4 := x4.on hb; replace x5 := x5.on hb; replace x6 := x6.on hb; replace x7 := x7.on hb; replace x8 := x8.on hb; replace hB := hB.trans (hb.mono hB.size); clear hb f1
 go_wp2_with fail
 refine (Parse_007 _).mono ?_
 rintro e w18 ⟨rfl, hb⟩
 replace r1 := r1.below hb (Nat.le_refl _); replace r2 := r2.below hb (Nat.le_refl _); replace r3 := r3.below hb (Nat.le_refl _); replace r4 := r4.below hb (Nat.le_refl _); replace r5 := r5.below hb (Nat.le_refl _); replace r6 := r6.below hb (Nat.le_refl _); replace r7 := r7.below hb (Nat.le_refl _); replace r8 := r8.below hb (Nat.le_refl _); replace x1 := x1.on hb; replace x2 := x2.on hb; replace x3 := x3.on hb; replace x4 := x4.on hb; replace x5 := x5.on hb; replace x6 := x6.on hb; replace x7 := x7.on hb; replace x8 := x8.on hb; replace hB := hB.trans (hb.mono hB.size); clear hb
 have al := (Below.refl w18.heap.size w18).alloc (Nat.le_refl _) (.cells #[.bool false, .slice none 0 0] 26)
 replace r1 := r1.below al (Nat.le_refl _); replace r2 := r2.below al (Nat.le_refl _); replace r3 := r3.below al (Nat.le_refl _); replace r4 := r4.below al (Nat.le_refl _); replace r5 := r5.below al (Nat.le_refl _); replace r6 := r6.below al (Nat.le_refl _); replace r7 := r7.below al (Nat.le_refl _); replace r8 := r8.below al (Nat.le_refl _); replace x1 := x1.on al; replace x2 := x2.on al; replace x3 := x3.on al; replace x4 := x4.on al; replace x5 := x5.on al; replace x6 := x6.on al; replace x7 := x7.on al; replace x8 := x8.on al; replace hB := hB.alloc hB.size (.cells #[.bool false, .slice none 0 0] 26); clear al
 go_wp2_with fail
 refine (num_any (1) (by omega) (by omega) _).mono ?_
 rintro e w19 ⟨⟨v, rfl, hn⟩, hb⟩
 obtain ⟨bf2, af2, kf2, cf2, rfl⟩ := hn.opened
 replace r1 := r1.below hb (Nat.le_refl _); replace r2 := r2.below hb (Nat.le_refl _); replace r3 := r3.below hb (Nat.le_refl _); replace r4 := r4.below hb (Nat.le_refl _); replace r5 := r5.below hb (Nat.le_refl _); replace r6 := r6.below hb (Nat.le_refl _); replace r7 := r7.below hb (Nat.le_refl _); replace r8 := r8.below hb (Nat.le_refl _); replace x1 := x1.on hb; replace x2 := x2.on hb; replace x3 := x3.on hb; replace x4 := x4.on hb; replace x5 := x5.on hb; replace x6 := x6.on hb; replace x7 := x7.on hb; replace x8 := x8.on hb; replace hB := hB.trans (hb.mono hB.size); clear hb
 have f2 := hn.num
 clear hn
 go_wp2_with fail
 refine (Add_odd _ _ f2).mono ?_
 rintro e w20 ⟨rfl, hb⟩
 replace r1 := r1.below hb (Nat.le_refl _); replace r2 := r2.below hb (Nat.le_refl _); replace r3 := r3.below hb (Nat.le_refl _); replace r4 := r4.below hb (Nat.le_refl _); replace r5 := r5.below hb (Nat.le_refl _); replace r6 := r6.below hb (Nat.le_refl _); replace r7 := r7.below hb (Nat.le_refl _); replace r8 := r8.below hb (Nat.le_refl _); replace f2 := f2.below hb (Nat.le_refl _); replace x1 := x1.on hb; replace x2 := x2.on hb; replace x3 := x3.on hb; replace x4 := x4.on hb; replace x5 := x5.on hb; replace x6 := x6.on hb; replace x7 := x7.on hb; replace x8 := x8.on hb; replace hB := hB.trans (hb.mono hB.size); clear hb f2
 have al := (Below.refl w20.heap.size w20).alloc (Nat.le_refl _) (.cells #[.bool false, .slice none 0 0] 26)
 replace r1 := r1.below al (Nat.le_refl _); replace r2 := r2.below al (Nat.le_refl _); replace r3 := r3.below al (Nat.le_refl _); replace r4 := r4.below al (Nat.le_refl _); replace r5 := r5.below al (Nat.le_refl _); replace r6 := r6.below al (Nat.le_refl _); replace r7 := r7.below al (Nat.le_refl _); replace r8 := r8.below al (Nat.le_refl _); replace x1 := x1.on al; replace x2 := x2.on al; replace x3 := x3.on al; replace x4 := x4.on al; replace x5 := x5.on al; replace x6 := x6.on al; replace x7 := x7.on al; replace x8 := x8.on al; replace hB := hB.alloc hB.size (.cells #[.bool false, .slice none 0 0] 26); clear al
 go_wp2_with fail
 refine (num_any (-65537) (by omega) (by omega) _).mono ?_
 rintro e w21 ⟨⟨v, rfl, hn⟩, hb⟩
 obtain ⟨bf1, af1, kf1, cf1, rfl⟩ := hn.opened
 replace r1 := r1.below hb (Nat.le_refl _); replace r2 := r2.below hb (Nat.le_refl _); replace r3 := r3.below hb (Nat.le_refl _); replace r4 := r4.below hb (Nat.le_refl _); replace r5 := r5.below hb (Nat.le_refl _); replace r6 := r6.below hb (Nat.le_refl _); replace r7 := r7.below hb (Nat.le_refl _); replace r8 := r8.below hb (Nat.le_refl _); replace x1 := x1.on hb; replace x2 := x2.on hb; replace x3 := x3.on hb; replace x4 := x4.on hb; replace x5 := x5.on hb; replace x6 := x6.on hb; replace x7 := x7.on hb; replace x8 := x8.on hb; replace hB := hB.trans (hb.mono hB.size); clear hb
 have f1 := hn.num
 clear hn
 obtain ⟨p1, p1'⟩ := x1.cells
 go_wp2_with fail
 refine (is_any _ (-65537) (by omega) (by omega) _ f1).mono ?_
 rintro e w22 ⟨rfl, hb⟩
 replace r1 := r1.below hb (Nat.le_refl _); replace r2 := r2.below hb (Nat.le_refl _); replace r3 := r3.below hb (Nat.le_refl _); replace r4 := r4.below hb (Nat.le_refl _); replace r5 := r5.below hb (Nat.le_refl _); replace r6 := r6.below hb (Nat.le_refl _); replace r7 := r7.below hb (Nat.le_refl _); replace r8 := r8.below hb (Nat.le_refl _); replace f1 := f1.below hb (Nat.le_refl _); replace x1 := x1.on hb; replace x2 := x2.on hb; replace x3 := x3.on hb; replace x4 := x4.on hb; replace x5 := x5.on hb; replace x6 := x6.on hb; replace x7 := x7.on hb; replace x8 := x8.on hb; replace hB := hB.trans (hb.mono hB.size); clear hb f1
 obtain ⟨p, p'⟩ := x1.cells
 go_wp2_with fail
 refine (is_any _ (65536) (by omega) (by omega) _ r1).mono ?_
 rintro e w23 ⟨rfl, hb⟩
 replace r1 := r1.below hb (Nat.le_refl _); replace r2 := r2.below hb (Nat.le_refl _); replace r3 := r3.below hb (Nat.le_refl _); replace r4 := r4.below hb (Nat.le_refl _); replace r5 := r5.below hb (Nat.le_refl _); replace r6 := r6.below hb (Nat.le_refl _); replace r7 := r7.below hb (Nat.le_refl _); replace r8 := r8.below hb (Nat.le_refl _); replace x1 := x1.on hb; replace x2 := x2.on hb; replace x3 := x3.on hb; replace x4 := x4.on hb; replace x5 := x5.on hb; replace x6 := x6.on hb; replace x7 := x7.on hb; replace x8 := x8.on hb; replace hB := hB.trans (hb.mono hB.size); clear hb p p' r1 x1
 obtain ⟨p, p'⟩ := x2.cells
 go_wp2_with fail
 refine (is_any _ (-4) (by omega) (by omega) _ r2).mono ?_
 rintro e w24 ⟨rfl, hb⟩
 replace r2 := r2.below hb (Nat.le_refl _); replace r3 := r3.below hb (Nat.le_refl _); replace r4 := r4.below hb (Nat.le_refl _); replace r5 := r5.below hb (Nat.le_refl _); replace r6 := r6.below hb (Nat.le_refl _); replace r7 := r7.below hb (Nat.le_refl _); replace r8 := r8.below hb (Nat.le_refl _); replace x2 := x2.on hb; replace x3 := x3.on hb; replace x4 := x4.on hb; replace x5 := x5.on hb; replace x6 := x6.on hb; replace x7 := x7.on hb; replace x8 := x8.on hb; replace hB := hB.trans (hb.mono hB.size); clear hb p p' r2 x2
 obtain ⟨p, p'⟩ := x3.cells
 go_wp2_with fail
 refine (is_any _ (-1) (by omega) (by omega) _ r3).mono ?_
 rintro e w25 ⟨rfl, hb⟩
 replace r3 := r3.below hb (Nat.le_refl _); replace r4 := r4.below hb (Nat.le_refl _); replace r5 := r5.below hb (Nat.le_refl _); replace r6 := r6.below hb (Nat.le_refl _); replace r7 := r7.below hb (Nat.le_refl _); replace r8 := r8.below hb (Nat.le_refl _); replace x3 := x3.on hb; replace x4 := x4.on hb; replace x5 := x5.on hb; replace x6 := x6.on hb; replace x7 := x7.on hb; replace x8 := x8.on hb; replace hB := hB.trans (hb.mono hB.size); clear hb p p' r3 x3
 obtain ⟨p, p'⟩ := x4.cells
 go_wp2_with fail
 refine (is_any _ (-4) (by omega) (by omega) _ r4).mono ?_
 rintro e w26 ⟨rfl, hb⟩
 replace r4 := r4.below hb (Nat.le_refl _); replace r5 := r5.below hb (Nat.le_refl _); replace r6 := r6.below hb (Nat.le_refl _); replace r7 := r7.below hb (Nat.le_refl _); replace r8 := r8.below hb (Nat.le_refl _); replace x4 := x4.on hb; replace x5 := x5.on hb; replace x6 := x6.on hb; replace x7 := x7.on hb; replace x8 := x8.on hb; replace hB := hB.trans (hb.mono hB.size); clear hb p p' r4 x4
 obtain ⟨p, p'⟩ := x5.cells
 go_wp2_with fail
 refine (is_any _ (1) (by omega) (by omega) _ r5).mono ?_
 rintro e w27 ⟨rfl, hb⟩
 replace r5 := r5.below hb (Nat.le_refl _); replace r6 := r6.below hb (Nat.le_refl _); replace r7 := r7.below hb (Nat.le_refl _); replace r8 := r8.below hb (Nat.le_refl _); replace x5 := x5.on hb; replace x6 := x6.on hb; replace x7 := x7.on hb; replace x8 := x8.on hb; replace hB := hB.trans (hb.mono hB.size); clear hb p p' r5 x5
 obtain ⟨p, p'⟩ := x6.cells
 go_wp2_with fail
 refine (is_any _ (3) (by omega) (by omega) _ r6).mono ?_
 rintro e w28 ⟨rfl, hb⟩
 replace r6 := r6.below hb (Nat.le_refl _); replace r7 := r7.below hb (Nat.le_refl _); replace r8 := r8.below hb (Nat.le_refl _); replace x6 := x6.on hb; replace x7 := x7.on hb; replace x8 := x8.on hb; replace hB := hB.trans (hb.mono hB.size); clear hb p p' r6 x6
 obtain ⟨p, p'⟩ := x7.cells
 go_wp2_with fail
 refine (is_any _ (-1) (by omega) (by omega) _ r7).mono ?_
 rintro e w29 ⟨rfl, hb⟩
 replace r7 := r7.below hb (Nat.le_refl _); replace r8 := r8.below hb (Nat.le_refl _); replace x7 := x7.on hb; replace x8 := x8.on hb; replace hB := hB.trans (hb.mono hB.size); clear hb p p' r7 x7
 obtain ⟨p, p'⟩ := x8.cells
 go_wp2_with fail
 refine (is_any _ (6) (by omega) (by omega) _ r8).mono ?_
 rintro e w30 ⟨rfl, hb⟩
 replace r8 := r8.below hb (Nat.le_refl _); replace x8 := x8.on hb; replace hB := hB.trans (hb.mono hB.size); clear hb p p' r8 x8
 go_wp2
 go_ret
 exact ⟨rfl, hB⟩
end Go.Proofs.Ytmbcnfogjncdaaa
namespace Go.Proofs.Ytmbcnfogjncdaaa
open Go.RowKit Wh
theorem Num.ond {W W' : World} {v : Value} {z : Int} (h : Num W v z) (hb : Below W.drew.heap.size W.drew W') : Num W' v z := h.below (((Below.refl W.heap.size W).drew).trans hb) (Nat.le_refl _)
end Go.Proofs.Ytmbcnfogjncdaaa
namespace Go.Proofs.Ytmbcnfogjncdaaa
open Go.ChangeShapes Go.WideShapes Go.ChangeAt Go.RowKit
theorem Try.ownKnob : ownKnob Try.prog.godebug = none := by kernel_rfl
theorem lawPost {H : Type} {enc : TypeId × Value → H} {P : Program} {f : Func} {s : ChangeSpec} {apart fresh handsOn again : Bool} {W W' : World} {args : Array Value} {v : Value} {ds gs : List (DataW H)} {pl pa pv : List MemPlace}
  (hw : DataW.Whole enc P f.params.toList s.vars apart W args.toList ds gs pl) (hb : Below W.heap.size W W') (hpl : pl = pa ++ pv)
  (hok : ∀ (j : Nat) (t : TypeId) (r : Value), f.resultTypes[j]? = some t → (v.resultList f.resultTypes.size)[j]? = some r → Value.okWide P W' .any 0 t r)
  (hr : ∀ (b : Nat) (sp : Nat → Bool) (hd : Bool), DataW.TrodAll enc P W' b sp hd f.resultTypes.toList (v.resultList f.resultTypes.size) (s.fn H (ds ++ gs)).results [])
  (ha : ∀ sp : Nat → Bool, (∀ p ∈ pl, sp p.block = true) → DataW.TrodAll enc P W' 0 sp true f.params.toList args.toList (s.fn H (ds ++ gs)).args pa)
  (hv : ∀ sp : Nat → Bool, (∀ p ∈ pl, sp p.block = true) → DataW.TrodVars enc P W' sp s.vars (s.fn H (ds ++ gs)).vars pv) :
  s.post enc P f apart fresh handsOn again W args v W' := by
 subst hpl
 have below : ∀ p ∈ pa ++ pv, p.block < W.heap.size := fun p hp => hw.lt p hp
 have sp0 : ∀ p ∈ pa ++ pv, decide (p.block < W.heap.size) = true := fun p hp => decide_eq_true (below p hp)
 have every : ∀ p ∈ pa ++ pv, (fun _ : Nat => true) p.block = true := fun _ _ => rfl
 obtain ⟨p0, q0, h1, h2, h3, hz, hn⟩ := id hw
 have A1 := ha (fun b => decide (b < W.heap.size)) sp0
 have V1 := hv (fun b => decide (b < W.heap.size)) sp0
 have fr : ∀ b off, MemPlace.cell b off ∈ pa ++ pv → W'.frozen? ⟨b, off, none⟩ = false := fun b off hp => (hb.frozen (p := ⟨b, off, none⟩) (below _ hp)).trans (hz b off hp)
 refine ⟨ds, gs, pa ++ pv, [], pa, pv, hw, hr _ _ _, A1, V1, World.keptBut_mono (fun p hp => ⟨hp, .inr (by simpa using hp)⟩) (hb.frame (· ∈ pa ++ pv)), fun _ => ⟨hok, _, _, [] ++ pa ++ pv, ⟨[] ++ pa, pv, trodAll_append (ha _ every) (hr _ _ _), hv _ every, rfl, fun b off hp => fr b off (by simpa using hp), fun h => by simpa using hn h⟩, ?_⟩⟩
 intro p hp _
 simpa using hp
end Go.Proofs.Ytmbcnfogjncdaaa
namespace Go.Proofs.Ytmbcnfogjncdaaa
open Go.RowKit Wh
def Sz (n : Nat) (z : Int) : Prop := (dig z.natAbs).length ≤ n
theorem Sz.lt {n : Nat} {z : Int} (h : Sz n z) : z.natAbs < 65536 ^ n := (length_dig_le _ _).1 h
theorem Sz.of_lt {n : Nat} {z : Int} (h : z.natAbs < 65536 ^ n) : Sz n z := (length_dig_le _ _).2 h
theorem Sz.len {n : Nat} {z : Int} (h : Sz n z) (hn : n ≤ 1024) : (dig z.natAbs).length ≤ 1024 := Nat.le_trans h hn
theorem Sz.mono {n m : Nat} {z : Int} (h : Sz n z) (hn : n ≤ m) : Sz m z := Nat.le_trans h hn
theorem Sz.neg {n : Nat} {z : Int} (h : Sz n z) : Sz n (-z) := by unfold Sz; rw [Int.natAbs_neg]; exact h
theorem Sz.add {n m : Nat} {a b : Int} (h : Sz n a) (g : Sz m b) : Sz (max n m + 1) (a + b) := by
 refine Sz.of_lt ?_
 have h1 := (h.mono (Nat.le_max_left n m)).lt
 have h2 := (g.mono (Nat.le_max_right n m)).lt
 rw [Nat.pow_succ]
 have := Int.natAbs_add_le a b
 omega
theorem Sz.mul {n m : Nat} {a b : Int} (h : Sz n a) (g : Sz m b) : Sz (n + m) (a * b) := by
 refine Sz.of_lt ?_
 rw [Int.natAbs_mul, Nat.pow_add]
 exact Nat.lt_of_le_of_lt (Nat.mul_le_mul_left _ (Nat.le_of_lt g.lt)) (Nat.mul_lt_mul_of_pos_right h.lt (Nat.pow_pos (by decide)))
theorem Sz.small {z : Int} (h : z.natAbs < 65536) : Sz 1 z := Sz.of_lt (by simpa using h)
theorem num_of_vld {W : World} {b : Bool} {s : Value} {l : List Nat} (hv : vld b l = true) (hl : Lim W s l) (hm : Lm l) : ∃ z : Int, b = decide (z < 0) ∧ l = dig z.natAbs ∧ Num W (.agg #[.bool b, s]) z := by
 have hd : l = dig (val l) := by
  refine (dig_val hm fun hne e => ?_).symm
  unfold vld at hv
  rw [if_neg hne] at hv
  simp only [Bool.and_eq_true, decide_eq_true_eq] at hv
  refine hv.2 ?_
  rw [List.getLast_eq_getElem] at e
  rw [getD_lt_length (by have := List.length_pos_iff.2 hne; omega), e]
 have h0 : l = [] → b = false := fun e => by unfold vld at hv; rw [if_pos e] at hv; simpa using hv
 have e0 : l = [] ↔ val l = 0 := by
  constructor
  · intro e; rw [e]; rfl
  · intro e; rw [hd, e, dig_zero]
 cases b with
 | false =>
  refine ⟨(val l : Int), ?_, by rw [Int.natAbs_natCast]; exact hd, s, ?_, by rw [Int.natAbs_natCast, ← hd]; exact hl⟩ <;> simp
 | true =>
  have hp : val l ≠ 0 := fun e => by have := h0 (e0.2 e); simp at this
  have e1 : decide (-(val l : Int) < 0) = true := decide_eq_true (by omega)
  exact ⟨-(val l : Int), e1.symm, by rw [Int.natAbs_neg, Int.natAbs_natCast]; exact hd, s, by rw [e1], by rw [Int.natAbs_neg, Int.natAbs_natCast, ← hd]; exact hl⟩
theorem lim_len {W : World} {a : Option Addr} {k c : Nat} {l : List Nat} (h : Lim W (.slice a k c) l) : k = l.length := by
 obtain ⟨a', c', e, -⟩ := h; injection e
end Go.Proofs.Ytmbcnfogjncdaaa
namespace Fq
theorem divInt_of {n d n' d' e : Int} (hd : d ≠ 0) (hn : n = n' * e) (hd' : d = d' * e) : Rat.divInt n d = Rat.divInt n' d' := by
 have h1 : d' ≠ 0 := fun h => hd (by rw [hd', h, Int.zero_mul])
 rw [Rat.divInt_eq_divInt_iff hd h1, hn, hd']
 rw [Int.mul_assoc, Int.mul_comm e d']
theorem num_den_of {n d : Int} (hd : 0 < d) (hg : Nat.gcd n.natAbs d.natAbs = 1) : (Rat.divInt n d).num = n ∧ ((Rat.divInt n d).den : Int) = d := by
 have h0 : d.natAbs ≠ 0 := by omega
 have e : Rat.divInt n d = ⟨n, d.natAbs, h0, hg⟩ := by
  rw [Rat.mk_eq_divInt]
  congr 1
  omega
 rw [e]
 exact ⟨rfl, by simp; omega⟩
theorem made {n d n' d' e : Int} (hd : d ≠ 0) (hn : n = n' * e) (hd' : d = d' * e) (hp : 0 < d') (hg : Nat.gcd n'.natAbs d'.natAbs = 1) : (Rat.divInt n d).num = n' ∧ ((Rat.divInt n d).den : Int) = d' := by
 rw [divInt_of hd hn hd']; exact num_den_of hp hg
theorem den_pos (q : Rat) : 0 < (q.den : Int) := by have := q.den_pos; omega
theorem add_eq (p q : Rat) : p + q = Rat.divInt (p.num * q.den + q.num * p.den) (p.den * q.den) := by
 have h1 := den_pos p; have h2 := den_pos q
 rw [← Rat.divInt_add_divInt _ _ (by omega) (by omega), Rat.num_divInt_den, Rat.num_divInt_den]
theorem mul_eq (p q : Rat) : p * q = Rat.divInt (p.num * q.num) (p.den * q.den) := by
 rw [← Rat.divInt_mul_divInt, Rat.num_divInt_den, Rat.num_divInt_den]
def cf (n d : Int) : Int := d.sign * (Nat.gcd n.natAbs d.natAbs : Nat)
theorem cf_pos {n d : Int} (hd : d ≠ 0) : 0 < Nat.gcd n.natAbs d.natAbs := Nat.gcd_pos_of_pos_right _ (by omega)
theorem cf_ne {n d : Int} (hd : d ≠ 0) : cf n d ≠ 0 := by
 have := cf_pos (n := n) hd
 unfold cf
 intro h
 rcases Int.mul_eq_zero.1 h with h | h
 · exact hd (Int.sign_eq_zero_iff_zero.1 h)
 · omega
theorem sgn_sq {d : Int} (hd : d ≠ 0) : d.sign * d.sign = 1 := by
 rcases Int.lt_or_gt_of_ne hd with h | h
 · rw [Int.sign_eq_neg_one_of_neg h]; rfl
 · rw [Int.sign_eq_one_of_pos h]; rfl
theorem parts {n d : Int} (hd : d ≠ 0) : n = (Rat.divInt n d).num * cf n d ∧ d = ((Rat.divInt n d).den : Int) * cf n d := by
  have hg := cf_pos (n := n) hd
  have hg' : d.gcd n = Nat.gcd n.natAbs d.natAbs := by rw [Int.gcd, Nat.gcd_comm]
  obtain ⟨a, ha⟩ : ((Nat.gcd n.natAbs d.natAbs : Nat) : Int) ∣ n := Int.ofNat_dvd_left.2 (Nat.gcd_dvd_left _ _)
  obtain ⟨b, hb⟩ : ((Nat.gcd n.natAbs d.natAbs : Nat) : Int) ∣ d := Int.ofNat_dvd_left.2 (Nat.gcd_dvd_right _ _)
  generalize hG : Nat.gcd n.natAbs d.natAbs = g at *
  have hg0 : (g : Int) ≠ 0 := by omega
  constructor
  · rw [Rat.num_divInt, hg']
    unfold cf
    rw [hG]
    have : d.sign * n / (g : Int) = d.sign * a := by
      rw [ha, show d.sign * ((g : Int) * a) = (g : Int) * (d.sign * a) from by rw [← Int.mul_assoc, ← Int.mul_assoc, Int.mul_comm d.sign]]
      exact Int.mul_ediv_cancel_left _ hg0
    rw [this, show d.sign * a * (d.sign * (g : Int)) = (d.sign * d.sign) * ((g : Int) * a) from by grind, ← ha]
    rw [sgn_sq hd, Int.one_mul]
  · rw [Rat.den_divInt, if_neg hd, hg']
    unfold cf
    rw [hG]
    have e : ((d.natAbs / g : Nat) : Int) = d.sign * b := by
      have h1 : (d.natAbs : Int) = d.sign * d := by rw [Int.sign_mul_self]
      have h2 : d.natAbs = g * b.natAbs := by rw [hb, Int.natAbs_mul]; simp
      rw [h2, Nat.mul_div_cancel_left _ (by omega)]
      have h3 : d.sign = b.sign := by
        rw [hb, Int.sign_mul, Int.sign_eq_one_of_pos (a := (g : Int)) (by omega), Int.one_mul]
      rw [h3, Int.sign_mul_self]
    rw [e, show d.sign * b * (d.sign * (g : Int)) = (d.sign * d.sign) * ((g : Int) * b) from by grind, ← hb]
    rw [sgn_sq hd, Int.one_mul]
theorem num_le {n d : Int} (hd : d ≠ 0) : (Rat.divInt n d).num.natAbs ≤ n.natAbs := by
 have h := congrArg Int.natAbs (parts (n := n) hd).1
 rw [Int.natAbs_mul] at h
 have := Int.natAbs_pos.2 (cf_ne (n := n) hd)
 rw [h]
 exact Nat.le_mul_of_pos_right _ this
theorem den_le {n d : Int} (hd : d ≠ 0) : (Rat.divInt n d).den ≤ d.natAbs := by
 have h := congrArg Int.natAbs (parts (n := n) hd).2
 rw [Int.natAbs_mul] at h
 have := Int.natAbs_pos.2 (cf_ne (n := n) hd)
 rw [h, Int.natAbs_natCast]
 exact Nat.le_mul_of_pos_right _ this
end Fq
namespace Go.Proofs.Ytmbcnfogjncdaaa
open Wh
def Fz (n m : Nat) (q : Rat) : Prop := Sz n q.num ∧ Sz m (q.den : Int)
theorem Fz.mono {n m n' m' : Nat} {q : Rat} (h : Fz n m q) (h1 : n ≤ n') (h2 : m ≤ m') : Fz n' m' q := ⟨h.1.mono h1, h.2.mono h2⟩
theorem Sz.le {n : Nat} {a b : Int} (h : Sz n b) (hab : a.natAbs ≤ b.natAbs) : Sz n a := Sz.of_lt (Nat.lt_of_le_of_lt hab h.lt)
theorem Fz.made {n m : Nat} {a b : Int} (ha : Sz n a) (hb : Sz m b) (h0 : b ≠ 0) : Fz n m (Rat.divInt a b) :=
 ⟨ha.le (Fq.num_le h0), hb.le (by rw [Int.natAbs_natCast]; exact Fq.den_le h0)⟩
theorem dd_ne (p q : Rat) : (p.den : Int) * (q.den : Int) ≠ 0 := Int.mul_ne_zero (by have := p.den_pos; omega) (by have := q.den_pos; omega)
theorem Fz.add {n m n' m' : Nat} {p q : Rat} (h : Fz n m p) (g : Fz n' m' q) : Fz (max (n + m') (n' + m) + 1) (m + m') (p + q) := by
 rw [Fq.add_eq]; exact Fz.made ((h.1.mul g.2).add (g.1.mul h.2)) (h.2.mul g.2) (dd_ne p q)
theorem Fz.mul {n m n' m' : Nat} {p q : Rat} (h : Fz n m p) (g : Fz n' m' q) : Fz (n + n') (m + m') (p * q) := by
 rw [Fq.mul_eq]; exact Fz.made (h.1.mul g.1) (h.2.mul g.2) (dd_ne p q)
theorem Fz.neg {n m : Nat} {p : Rat} (h : Fz n m p) : Fz n m (-p) := ⟨h.1.neg, h.2⟩
theorem Fz.int {n : Nat} {a : Int} (h : Sz n a) : Fz n 1 (a : Rat) := ⟨by rw [Rat.num_intCast]; exact h, by rw [Rat.den_intCast]; exact Sz.small (by decide)⟩
end Go.Proofs.Ytmbcnfogjncdaaa
namespace Go.Proofs.Ytmbcnfogjncdaaa
open Go.RowKit Wh
def Fra (W : World) (v : Value) (q : Rat) : Prop := ∃ s s', v = .agg #[.bool (decide (q.num < 0)), s, .bool false, s'] ∧ Lim W s (dig q.num.natAbs) ∧ Lim W s' (dig q.den)
def FraF (B : Nat) (W : World) (v : Value) (q : Rat) : Prop := ∃ s s', v = .agg #[.bool (decide (q.num < 0)), s, .bool false, s'] ∧ LimF B W s (dig q.num.natAbs) ∧ LimF B W s' (dig q.den)
theorem Fra.below {W W' : World} {B : Nat} {v : Value} {q : Rat} (h : Fra W v q) (hB : Below B W W') (hs : W.heap.size ≤ B) : Fra W' v q := by obtain ⟨n, d, e, h1, h2⟩ := h; exact ⟨n, d, e, h1.below hB hs, h2.below hB hs⟩
theorem Lim.on {W W' : World} {v : Value} {l : List Nat} (h : Lim W v l) (hb : Below W.heap.size W W') : Lim W' v l := h.below hb (Nat.le_refl _)
theorem Num.on {W W' : World} {v : Value} {z : Int} (h : Num W v z) (hb : Below W.heap.size W W') : Num W' v z := h.below hb (Nat.le_refl _)
theorem Fra.on {W W' : World} {v : Value} {q : Rat} (h : Fra W v q) (hb : Below W.heap.size W W') : Fra W' v q := h.below hb (Nat.le_refl _)
theorem FraF.below {B : Nat} {W W' : World} {v : Value} {q : Rat} (h : FraF B W v q) (hb : Below W.heap.size W W') : FraF B W' v q := by obtain ⟨n, d, e, h1, h2⟩ := h; exact ⟨n, d, e, h1.below hb, h2.below hb⟩
theorem FraF.mono {B B' : Nat} {W : World} {v : Value} {q : Rat} (h : FraF B W v q) (hB : B' ≤ B) : FraF B' W v q := by obtain ⟨n, d, e, h1, h2⟩ := h; exact ⟨n, d, e, h1.mono hB, h2.mono hB⟩
theorem Num.opened {W : World} {v : Value} {z : Int} (h : Num W v z) : ∃ b a k c, v = .agg #[.bool b, .slice a k c] := by
 obtain ⟨s, rfl, hl⟩ := h
 obtain ⟨a, c, rfl⟩ := lim_slice hl
 exact ⟨_, _, _, _, rfl⟩
theorem Fra.opened {W : World} {v : Value} {q : Rat} (h : Fra W v q) : ∃ b a k c b' a' k' c', v = .agg #[.bool b, .slice a k c, .bool b', .slice a' k' c'] := by
 obtain ⟨n, d, rfl, h1, h2⟩ := h
 obtain ⟨a, c, rfl⟩ := lim_slice h1
 obtain ⟨a', c', rfl⟩ := lim_slice h2
 exact ⟨_, _, _, _, _, _, _, _, rfl⟩
theorem num_len {W : World} {b : Bool} {a : Option Addr} {k c : Nat} {z : Int} (h : Num W (.agg #[.bool b, .slice a k c]) z) : k = (dig z.natAbs).length ∧ b = decide (z < 0) := by
 obtain ⟨s, e, hl⟩ := h
 simp only [Value.agg.injEq, Array.mk.injEq, List.cons.injEq, Value.bool.injEq, and_true] at e
 obtain ⟨e1, e2⟩ := e
 subst e2
 exact ⟨lim_len hl, e1⟩
end Go.Proofs.Ytmbcnfogjncdaaa
namespace Go.Proofs.Ytmbcnfogjncdaaa
open Go.RowKit Wh
def Bk (W : World) (B : Nat) (C : Array Value) (T : TypeId) : Prop := W.heap[B]? = some (.cells C T (0, 0))
theorem Bk.lt {W B C T} (h : Bk W B C T) : B < W.heap.size := (Array.getElem?_eq_some_iff.1 h).1
theorem Bk.cell {W B C T} (h : Bk W B C T) (i : Nat) : W.cell? ⟨B, i, none⟩ = C[i]? := by unfold Bk at h; simp [World.cell?, h]
theorem Bk.free {W B C T} (h : Bk W B C T) (i : Nat) : W.frozen? ⟨B, i, none⟩ = false := by unfold Bk at h; simp [World.frozen?, h]
theorem Bk.on {W W' : World} {B C T} (h : Bk W B C T) (hb : Below W.heap.size W W') : Bk W' B C T := (hb.block B h.lt).trans h
theorem Bk.new (W : World) (C : Array Value) (T : TypeId) : Bk (W.alloc (.cells C T)) W.heap.size C T := World.alloc_heap_new W _
theorem Bk.alloc {W : World} {B C T} (h : Bk W B C T) (o : Obj) : Bk (W.alloc o) B C T := h.on ((Below.refl W.heap.size W).alloc (Nat.le_refl _) o)
theorem Bk.put {W : World} {B C T} (h : Bk W B C T) (i : Nat) (v : Value) : Bk (W.setCell ⟨B, i, none⟩ v) B (C.setIfInBounds i v) T := heap_setCell_same W B i _ _ v h
theorem Bk.put_other {W : World} {B C T} (h : Bk W B C T) (B' i : Nat) (v : Value) (hne : B ≠ B') : Bk (W.setCell ⟨B', i, none⟩ v) B C T := (heap_setCell_other W ⟨B', i, none⟩ B v hne).trans h
theorem mk {w W : World} (hB : Below w.heap.size w W) (C : Array Value) (T : TypeId) : Below W.heap.size W (W.alloc (.cells C T)) ∧ Bk (W.alloc (.cells C T)) W.heap.size C T ∧ Below w.heap.size w (W.alloc (.cells C T)) :=
 ⟨(Below.refl _ W).alloc (Nat.le_refl _) _, Bk.new W C T, hB.alloc hB.size _⟩
theorem Bk.cells2 {W B x0 x1 T} (h : Bk W B #[x0, x1] T) : W.cell? ⟨B, 0, none⟩ = some x0 ∧ W.cell? ⟨B, 1, none⟩ = some x1 := ⟨h.cell 0, h.cell 1⟩
theorem Bk.all2 {W B x0 x1 T} (h : Bk W B #[x0, x1] T) : W.cell? ⟨B, 0, none⟩ = some x0 ∧ W.frozen? ⟨B, 0, none⟩ = false ∧ W.cell? ⟨B, 1, none⟩ = some x1 ∧ W.frozen? ⟨B, 1, none⟩ = false := ⟨h.cell 0, h.free 0, h.cell 1, h.free 1⟩
end Go.Proofs.Ytmbcnfogjncdaaa
