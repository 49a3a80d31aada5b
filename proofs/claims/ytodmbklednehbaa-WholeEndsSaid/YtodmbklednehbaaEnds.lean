/-
'WholeEnds'.
-/
import Derived.Test.YtodmbklednehbaaEndsA
import Derived.Test.YtodmbklednehbaaHelp
import Derived.Outline
import Derived.Tactics2
import Derived.WalkKit
import Derived.Deep.RegionHeld3
import Derived.Deep.DeepCutAuto
import Derived.KernelRfl
namespace Go.Proofs.Ytodmbklednehbaa
open Go.RowKit Wh

theorem Try.fieldW (b : Bool) (a : Option Addr) (k c : Nat) (W : World) : Sem.run Try.prog (Instr.field 26 (.agg #[.bool b, .slice a k c]) 1) W = .ok (.slice a k c) W := by kernel_rfl
attribute [local go_sem] Try.fieldW

set_option maxRecDepth 100000 in
set_option maxHeartbeats 64000000 in
theorem WholeEnds_core (w : World) :
    Calls Try.prog 4 #[] w fun e w' => e = .returned (.bool true) ∧ Below w.heap.size w w' := by
  obtain ⟨P, P0, hP, sP, sN, l1, l2, l3⟩ := top_facts
  obtain ⟨M, hM, sM, q0, q1, q2, q3⟩ := square_facts
  have HL := Lib.hid (fun W => large_1024 P hP W)
  have HM := Lib.hid (fun W => large_512 M hM W)
  have HO := Lib.hid (fun W => large_over W)
  have HN1 := Lib.hid (fun W => num_any 1 (by decide) (by decide) W)
  have HN2 := Lib.hid (fun W => num_any 2 (by decide) (by decide) W)
  have HNl := Lib.hid (fun W => num_any (-9223372036854775808) (by decide) (by decide) W)
  have HNt := Lib.hid (fun W => num_any 9223372036854775807 (by decide) (by decide) W)
  have HA := Lib.hid (fun vx vy W (h : Num W vx (P : Int)) (g : Num W vy 1) => Add_long vx vy (P : Int) 1 (Sz.len sP (by decide)) (Sz.len (Sz.small (z := 1) (by decide)) (by decide)) W h g l1)
  have HX := Lib.hid (fun vx vy W (h : Num W vx (P : Int)) (g : Num W vy 2) => Mul_long vx vy (P : Int) 2 (Sz.len sP (by decide)) (Sz.len (Sz.small (z := 2) (by decide)) (by decide)) W h g l2)
  have HS := Lib.hid (fun vx vy W (h : Num W vx (-(P : Int))) (g : Num W vy 1) => Sub_long vx vy (-(P : Int)) 1 (Sz.len sN (by decide)) (Sz.len (Sz.small (z := 1) (by decide)) (by decide)) W h g l3)
  have HZ := Lib.hid (fun vx vy W (h : Num W vx (P : Int)) (g : Num W vy (-(P : Int))) => Add_to vx vy (P : Int) (-(P : Int)) 0 (by omega) (Sz.len sP (by decide)) (Sz.len sN (by decide)) W h g (Sz.len (Sz.small (z := 0) (by decide)) (by decide)))
  have HQ := Lib.hid (fun vx vy W (h : Num W vx (M : Int)) (g : Num W vy (M : Int)) => Mul_ok vx vy (M : Int) (M : Int) (Sz.len sM (by decide)) (Sz.len sM (by decide)) W h g (by rw [q0]; omega))
  have HI1 := Lib.hid (fun v W (h : Num W v (-9223372036854775808)) => Int_any v (-9223372036854775808) (by decide) (by decide) W h)
  have HI2 := Lib.hid (fun v W (h : Num W v 9223372036854775808) => Int_top v W h)
  have HI3 := Lib.hid (fun v W (h : Num W v 9223372036854775807) => Int_any v 9223372036854775807 (by decide) (by decide) W h)
  have HIs := Lib.hid (fun v W (h : Num W v 0) => is_any v 0 (by decide) (by decide) W h)
  clear hP hM sP sN sM l1 l2 l3 q3
  replace q0 := Lib.hid q0
  replace q1 := Lib.hid q1
  replace q2 := Lib.hid q2
  have hB := Below.refl w.heap.size w
  go_enter Try.func4, Try.ntmps4
  go_wp2_with fail
  refine (HL.out _).mono ?_
  rintro e w1 ⟨⟨aT, cT, rfl, nT⟩, hb⟩
  replace hB := hB.trans (hb.mono hB.size)
  clear hb
  have al := (Below.refl w1.heap.size w1).alloc (Nat.le_refl _) (.cells #[.bool false, .slice aT 1024 cT] 26)
  have xT := Bx.new w1 (.bool false) (.slice aT 1024 cT)
  replace nT := nT.below al (Nat.le_refl _)
  replace hB := hB.alloc hB.size (.cells #[.bool false, .slice aT 1024 cT] 26)
  clear al
  obtain ⟨pT, pT'⟩ := xT.cells
  go_upto_region 2 with fail
  obtain ⟨u1, hu⟩ : ∃ W : World, W = (w1.alloc (.cells #[.bool false, .slice aT 1024 cT] 26)) := ⟨_, rfl⟩
  rw [← hu] at hB nT xT pT pT' ⊢
  clear hu
  go_cut [4] (fun s4 wx => s4 = .int .i64 3 ∧ Below u1.heap.size u1 wx)
  case first =>
    replace hB : Below u1.heap.size u1 u1.drew := (Below.refl u1.heap.size u1).drew
    replace nT : Num u1.drew _ _ := nT
    replace xT : Bx u1.drew _ _ _ := xT
    have nc0 : u1.heap.size ≠ w1.heap.size := (by have := xT.lt; simp only [World.size_drew] at *; omega)
    have A1D : Below u1.drew.heap.size u1.drew ((u1.alloc (.cells #[.bool false, .slice none 0 0] 26)).drew) := (Below.refl u1.drew.heap.size u1.drew).alloc (Nat.le_refl _) (.cells #[.bool false, .slice none 0 0] 26)
    have Z1D : Bx ((u1.alloc (.cells #[.bool false, .slice none 0 0] 26)).drew) u1.heap.size (.bool false) (.slice none 0 0) := Bx.new u1 (.bool false) (.slice none 0 0)
    have A1E : Below u1.drew.heap.size u1.drew (u1.drew.alloc (.cells #[.bool false, .slice none 0 0] 26)) := (Below.refl u1.drew.heap.size u1.drew).alloc (Nat.le_refl _) (.cells #[.bool false, .slice none 0 0] 26)
    have Z1E : Bx (u1.drew.alloc (.cells #[.bool false, .slice none 0 0] 26)) u1.heap.size (.bool false) (.slice none 0 0) := Bx.new u1 (.bool false) (.slice none 0 0)
    go_region_held3 (fun w' => w'.cell? ⟨w1.heap.size, 0, none⟩ = some (.bool false) ∧ w'.cell? ⟨w1.heap.size, 1, none⟩ = some (.slice aT 1024 cT))
      (first | exact ⟨pT, pT'⟩ | go_keep)
      (first
        | (go_at_call 25; ((with_reducible refine (HN1.out (u1.drew)).mono ?_); rintro e wn ⟨⟨v, rfl, hn⟩, hb⟩; obtain ⟨bm1, am1, km1, cm1, rfl⟩ := hn.opened; have hX := hb; replace nT := nT.below hX (Nat.le_refl _); replace xT := xT.on hX; clear pT pT'; obtain ⟨pT, pT'⟩ := xT.cells; replace hB := hB.trans (hX.mono hB.size); have nn0 : wn.heap.size ≠ w1.heap.size := (by have := xT.lt; simp only [World.size_drew] at *; omega); have lwn : u1.heap.size ≤ wn.heap.size := hB.size; have m1 := hn.num; clear hb hX hn))
        | (go_at_call 25; ((with_reducible refine (HN1.out ((u1.alloc (.cells #[.bool false, .slice none 0 0] 26)).drew)).mono ?_); rintro e wn ⟨⟨v, rfl, hn⟩, hb⟩; obtain ⟨bm1, am1, km1, cm1, rfl⟩ := hn.opened; have zb := Z1D.on hb; have lzb : u1.heap.size ≤ u1.heap.size := Nat.le_refl _; have hX := then_below A1D hb; replace nT := nT.below hX (Nat.le_refl _); replace xT := xT.on hX; clear pT pT'; obtain ⟨pT, pT'⟩ := xT.cells; replace hB := hB.trans (hX.mono hB.size); have nn0 : wn.heap.size ≠ w1.heap.size := (by have := xT.lt; simp only [World.size_drew] at *; omega); have lwn : u1.heap.size ≤ wn.heap.size := hB.size; have m1 := hn.num; clear hb hX hn))
        | (go_at_call 25; ((with_reducible refine (HN1.out (u1.drew.alloc (.cells #[.bool false, .slice none 0 0] 26))).mono ?_); rintro e wn ⟨⟨v, rfl, hn⟩, hb⟩; obtain ⟨bm1, am1, km1, cm1, rfl⟩ := hn.opened; have zb := Z1E.on hb; have lzb : u1.heap.size ≤ u1.heap.size := Nat.le_refl _; have hX := then_below A1E hb; replace nT := nT.below hX (Nat.le_refl _); replace xT := xT.on hX; clear pT pT'; obtain ⟨pT, pT'⟩ := xT.cells; replace hB := hB.trans (hX.mono hB.size); have nn0 : wn.heap.size ≠ w1.heap.size := (by have := xT.lt; simp only [World.size_drew] at *; omega); have lwn : u1.heap.size ≤ wn.heap.size := hB.size; have m1 := hn.num; clear hb hX hn))
        | (go_at_call 13; ((with_reducible refine (HA.out _ _ _ nT m1).mono ?_); rintro e wq ⟨rfl, hb⟩; have hX := hb; replace nT := nT.below hX (Nat.le_refl _); replace xT := xT.on hX; clear pT pT'; obtain ⟨pT, pT'⟩ := xT.cells; replace hB := hB.trans (hX.mono hB.size); (try replace zb := zb.on hX); (try (have lz := zb.lt; obtain ⟨cz, cz'⟩ := zb.cells; obtain ⟨fz, fz'⟩ := zb.free)); clear hb hX m1))
        | (go_at_call 13; ((with_reducible refine (HA.out _ _ _ (nT.below ((Below.refl wn.heap.size wn).alloc (Nat.le_refl _) (.cells #[.bool false, .slice none 0 0] 26)) (Nat.le_refl _)) (m1.below ((Below.refl wn.heap.size wn).alloc (Nat.le_refl _) (.cells #[.bool false, .slice none 0 0] 26)) (Nat.le_refl _))).mono ?_); rintro e wq ⟨rfl, hb⟩; have zb := (Bx.new wn (.bool false) (.slice none 0 0)).on hb; have lzb : u1.heap.size ≤ wn.heap.size := lwn; have hX := then_below ((Below.refl wn.heap.size wn).alloc (Nat.le_refl _) (.cells #[.bool false, .slice none 0 0] 26)) hb; replace nT := nT.below hX (Nat.le_refl _); replace xT := xT.on hX; clear pT pT'; obtain ⟨pT, pT'⟩ := xT.cells; replace hB := hB.trans (hX.mono hB.size); (try (have lz := zb.lt; obtain ⟨cz, cz'⟩ := zb.cells; obtain ⟨fz, fz'⟩ := zb.free)); clear hb hX m1)))
    all_goals (go_wp2_with fail; go_meet)
    all_goals first
      | exact ⟨rfl, hB.alloc hB.size _⟩
      | exact ⟨rfl, below_put2 hB lzb _ _⟩
  case rest =>
    obtain ⟨rfl, hb⟩ := hcut
    replace nT := nT.below hb (Nat.le_refl _)
    replace xT := xT.on hb; clear pT pT'; obtain ⟨pT, pT'⟩ := xT.cells
    replace hB := hB.trans (hb.mono hB.size)
    clear hb
    go_upto_region 3 with fail
    go_cut [6] (fun s6 wx => s6 = .int .i64 3 ∧ Below wc.heap.size wc wx)
    case first =>
      replace hB : Below wc.heap.size wc wc.drew := (Below.refl wc.heap.size wc).drew
      replace nT : Num wc.drew _ _ := nT
      replace xT : Bx wc.drew _ _ _ := xT
      have nc0 : wc.heap.size ≠ w1.heap.size := (by have := xT.lt; simp only [World.size_drew] at *; omega)
      have A1D : Below wc.drew.heap.size wc.drew ((wc.alloc (.cells #[.bool false, .slice none 0 0] 26)).drew) := (Below.refl wc.drew.heap.size wc.drew).alloc (Nat.le_refl _) (.cells #[.bool false, .slice none 0 0] 26)
      have Z1D : Bx ((wc.alloc (.cells #[.bool false, .slice none 0 0] 26)).drew) wc.heap.size (.bool false) (.slice none 0 0) := Bx.new wc (.bool false) (.slice none 0 0)
      have A1E : Below wc.drew.heap.size wc.drew (wc.drew.alloc (.cells #[.bool false, .slice none 0 0] 26)) := (Below.refl wc.drew.heap.size wc.drew).alloc (Nat.le_refl _) (.cells #[.bool false, .slice none 0 0] 26)
      have Z1E : Bx (wc.drew.alloc (.cells #[.bool false, .slice none 0 0] 26)) wc.heap.size (.bool false) (.slice none 0 0) := Bx.new wc (.bool false) (.slice none 0 0)
      go_region_held3 (fun w' => w'.cell? ⟨w1.heap.size, 0, none⟩ = some (.bool false) ∧ w'.cell? ⟨w1.heap.size, 1, none⟩ = some (.slice aT 1024 cT))
        (first | exact ⟨pT, pT'⟩ | go_keep)
        (first
          | (go_at_call 25; ((with_reducible refine (HN2.out (wc.drew)).mono ?_); rintro e wn ⟨⟨v, rfl, hn⟩, hb⟩; obtain ⟨bm1, am1, km1, cm1, rfl⟩ := hn.opened; have hX := hb; replace nT := nT.below hX (Nat.le_refl _); replace xT := xT.on hX; clear pT pT'; obtain ⟨pT, pT'⟩ := xT.cells; replace hB := hB.trans (hX.mono hB.size); have nn0 : wn.heap.size ≠ w1.heap.size := (by have := xT.lt; simp only [World.size_drew] at *; omega); have lwn : wc.heap.size ≤ wn.heap.size := hB.size; have m1 := hn.num; clear hb hX hn))
          | (go_at_call 25; ((with_reducible refine (HN2.out ((wc.alloc (.cells #[.bool false, .slice none 0 0] 26)).drew)).mono ?_); rintro e wn ⟨⟨v, rfl, hn⟩, hb⟩; obtain ⟨bm1, am1, km1, cm1, rfl⟩ := hn.opened; have zb := Z1D.on hb; have lzb : wc.heap.size ≤ wc.heap.size := Nat.le_refl _; have hX := then_below A1D hb; replace nT := nT.below hX (Nat.le_refl _); replace xT := xT.on hX; clear pT pT'; obtain ⟨pT, pT'⟩ := xT.cells; replace hB := hB.trans (hX.mono hB.size); have nn0 : wn.heap.size ≠ w1.heap.size := (by have := xT.lt; simp only [World.size_drew] at *; omega); have lwn : wc.heap.size ≤ wn.heap.size := hB.size; have m1 := hn.num; clear hb hX hn))
          | (go_at_call 25; ((with_reducible refine (HN2.out (wc.drew.alloc (.cells #[.bool false, .slice none 0 0] 26))).mono ?_); rintro e wn ⟨⟨v, rfl, hn⟩, hb⟩; obtain ⟨bm1, am1, km1, cm1, rfl⟩ := hn.opened; have zb := Z1E.on hb; have lzb : wc.heap.size ≤ wc.heap.size := Nat.le_refl _; have hX := then_below A1E hb; replace nT := nT.below hX (Nat.le_refl _); replace xT := xT.on hX; clear pT pT'; obtain ⟨pT, pT'⟩ := xT.cells; replace hB := hB.trans (hX.mono hB.size); have nn0 : wn.heap.size ≠ w1.heap.size := (by have := xT.lt; simp only [World.size_drew] at *; omega); have lwn : wc.heap.size ≤ wn.heap.size := hB.size; have m1 := hn.num; clear hb hX hn))
          | (go_at_call 15; ((with_reducible refine (HX.out _ _ _ nT m1).mono ?_); rintro e wq ⟨rfl, hb⟩; have hX := hb; replace nT := nT.below hX (Nat.le_refl _); replace xT := xT.on hX; clear pT pT'; obtain ⟨pT, pT'⟩ := xT.cells; replace hB := hB.trans (hX.mono hB.size); (try replace zb := zb.on hX); (try (have lz := zb.lt; obtain ⟨cz, cz'⟩ := zb.cells; obtain ⟨fz, fz'⟩ := zb.free)); clear hb hX m1))
          | (go_at_call 15; ((with_reducible refine (HX.out _ _ _ (nT.below ((Below.refl wn.heap.size wn).alloc (Nat.le_refl _) (.cells #[.bool false, .slice none 0 0] 26)) (Nat.le_refl _)) (m1.below ((Below.refl wn.heap.size wn).alloc (Nat.le_refl _) (.cells #[.bool false, .slice none 0 0] 26)) (Nat.le_refl _))).mono ?_); rintro e wq ⟨rfl, hb⟩; have zb := (Bx.new wn (.bool false) (.slice none 0 0)).on hb; have lzb : wc.heap.size ≤ wn.heap.size := lwn; have hX := then_below ((Below.refl wn.heap.size wn).alloc (Nat.le_refl _) (.cells #[.bool false, .slice none 0 0] 26)) hb; replace nT := nT.below hX (Nat.le_refl _); replace xT := xT.on hX; clear pT pT'; obtain ⟨pT, pT'⟩ := xT.cells; replace hB := hB.trans (hX.mono hB.size); (try (have lz := zb.lt; obtain ⟨cz, cz'⟩ := zb.cells; obtain ⟨fz, fz'⟩ := zb.free)); clear hb hX m1)))
      all_goals (go_wp2_with fail; go_meet)
      all_goals first
        | exact ⟨rfl, hB.alloc hB.size _⟩
        | exact ⟨rfl, below_put2 hB lzb _ _⟩
    case rest =>
      obtain ⟨rfl, hb⟩ := hcut
      replace nT := nT.below hb (Nat.le_refl _)
      replace xT := xT.on hb; clear pT pT'; obtain ⟨pT, pT'⟩ := xT.cells
      replace hB := hB.trans (hb.mono hB.size)
      clear hb
      go_wp2_with fail
      refine (HL.out _).mono ?_
      rintro e w2 ⟨⟨aL, cL, rfl, nL⟩, hb⟩
      replace nT := nT.below hb (Nat.le_refl _)
      replace xT := xT.on hb; clear pT pT'; obtain ⟨pT, pT'⟩ := xT.cells
      replace hB := hB.trans (hb.mono hB.size)
      clear hb
      replace nL := num_neg P0 nL
      have al := (Below.refl w2.heap.size w2).alloc (Nat.le_refl _) (.cells #[.bool true, .slice aL 1024 cL] 26)
      have xL := Bx.new w2 (.bool true) (.slice aL 1024 cL)
      replace nT := nT.below al (Nat.le_refl _)
      replace nL := nL.below al (Nat.le_refl _)
      replace xT := xT.on al; clear pT pT'; obtain ⟨pT, pT'⟩ := xT.cells
      replace hB := hB.alloc hB.size (.cells #[.bool true, .slice aL 1024 cL] 26)
      clear al
      obtain ⟨pL, pL'⟩ := xL.cells
      go_upto_region 5 with fail
      obtain ⟨u2, hu⟩ : ∃ W : World, W = (w2.alloc (.cells #[.bool true, .slice aL 1024 cL] 26)) := ⟨_, rfl⟩
      rw [← hu] at hB nT nL xT xL pT pT' pL pL' ⊢
      clear hu
      go_cut [9] (fun s9 wx => s9 = .int .i64 3 ∧ Below u2.heap.size u2 wx)
      case first =>
        replace hB : Below u2.heap.size u2 u2.drew := (Below.refl u2.heap.size u2).drew
        replace nL : Num u2.drew _ _ := nL
        replace xL : Bx u2.drew _ _ _ := xL
        have nc0 : u2.heap.size ≠ w2.heap.size := (by have := xL.lt; simp only [World.size_drew] at *; omega)
        have A1D : Below u2.drew.heap.size u2.drew ((u2.alloc (.cells #[.bool false, .slice none 0 0] 26)).drew) := (Below.refl u2.drew.heap.size u2.drew).alloc (Nat.le_refl _) (.cells #[.bool false, .slice none 0 0] 26)
        have Z1D : Bx ((u2.alloc (.cells #[.bool false, .slice none 0 0] 26)).drew) u2.heap.size (.bool false) (.slice none 0 0) := Bx.new u2 (.bool false) (.slice none 0 0)
        have A1E : Below u2.drew.heap.size u2.drew (u2.drew.alloc (.cells #[.bool false, .slice none 0 0] 26)) := (Below.refl u2.drew.heap.size u2.drew).alloc (Nat.le_refl _) (.cells #[.bool false, .slice none 0 0] 26)
        have Z1E : Bx (u2.drew.alloc (.cells #[.bool false, .slice none 0 0] 26)) u2.heap.size (.bool false) (.slice none 0 0) := Bx.new u2 (.bool false) (.slice none 0 0)
        go_region_held3 (fun w' => w'.cell? ⟨w2.heap.size, 0, none⟩ = some (.bool true) ∧ w'.cell? ⟨w2.heap.size, 1, none⟩ = some (.slice aL 1024 cL))
          (first | exact ⟨pL, pL'⟩ | go_keep)
          (first
            | (go_at_call 25; ((with_reducible refine (HN1.out (u2.drew)).mono ?_); rintro e wn ⟨⟨v, rfl, hn⟩, hb⟩; obtain ⟨bm1, am1, km1, cm1, rfl⟩ := hn.opened; have hX := hb; replace nL := nL.below hX (Nat.le_refl _); replace xL := xL.on hX; clear pL pL'; obtain ⟨pL, pL'⟩ := xL.cells; replace hB := hB.trans (hX.mono hB.size); have nn0 : wn.heap.size ≠ w2.heap.size := (by have := xL.lt; simp only [World.size_drew] at *; omega); have lwn : u2.heap.size ≤ wn.heap.size := hB.size; have m1 := hn.num; clear hb hX hn))
            | (go_at_call 25; ((with_reducible refine (HN1.out ((u2.alloc (.cells #[.bool false, .slice none 0 0] 26)).drew)).mono ?_); rintro e wn ⟨⟨v, rfl, hn⟩, hb⟩; obtain ⟨bm1, am1, km1, cm1, rfl⟩ := hn.opened; have zb := Z1D.on hb; have lzb : u2.heap.size ≤ u2.heap.size := Nat.le_refl _; have hX := then_below A1D hb; replace nL := nL.below hX (Nat.le_refl _); replace xL := xL.on hX; clear pL pL'; obtain ⟨pL, pL'⟩ := xL.cells; replace hB := hB.trans (hX.mono hB.size); have nn0 : wn.heap.size ≠ w2.heap.size := (by have := xL.lt; simp only [World.size_drew] at *; omega); have lwn : u2.heap.size ≤ wn.heap.size := hB.size; have m1 := hn.num; clear hb hX hn))
            | (go_at_call 25; ((with_reducible refine (HN1.out (u2.drew.alloc (.cells #[.bool false, .slice none 0 0] 26))).mono ?_); rintro e wn ⟨⟨v, rfl, hn⟩, hb⟩; obtain ⟨bm1, am1, km1, cm1, rfl⟩ := hn.opened; have zb := Z1E.on hb; have lzb : u2.heap.size ≤ u2.heap.size := Nat.le_refl _; have hX := then_below A1E hb; replace nL := nL.below hX (Nat.le_refl _); replace xL := xL.on hX; clear pL pL'; obtain ⟨pL, pL'⟩ := xL.cells; replace hB := hB.trans (hX.mono hB.size); have nn0 : wn.heap.size ≠ w2.heap.size := (by have := xL.lt; simp only [World.size_drew] at *; omega); have lwn : u2.heap.size ≤ wn.heap.size := hB.size; have m1 := hn.num; clear hb hX hn))
            | (go_at_call 14; ((with_reducible refine (HS.out _ _ _ nL m1).mono ?_); rintro e wq ⟨rfl, hb⟩; have hX := hb; replace nL := nL.below hX (Nat.le_refl _); replace xL := xL.on hX; clear pL pL'; obtain ⟨pL, pL'⟩ := xL.cells; replace hB := hB.trans (hX.mono hB.size); (try replace zb := zb.on hX); (try (have lz := zb.lt; obtain ⟨cz, cz'⟩ := zb.cells; obtain ⟨fz, fz'⟩ := zb.free)); clear hb hX m1))
            | (go_at_call 14; ((with_reducible refine (HS.out _ _ _ (nL.below ((Below.refl wn.heap.size wn).alloc (Nat.le_refl _) (.cells #[.bool false, .slice none 0 0] 26)) (Nat.le_refl _)) (m1.below ((Below.refl wn.heap.size wn).alloc (Nat.le_refl _) (.cells #[.bool false, .slice none 0 0] 26)) (Nat.le_refl _))).mono ?_); rintro e wq ⟨rfl, hb⟩; have zb := (Bx.new wn (.bool false) (.slice none 0 0)).on hb; have lzb : u2.heap.size ≤ wn.heap.size := lwn; have hX := then_below ((Below.refl wn.heap.size wn).alloc (Nat.le_refl _) (.cells #[.bool false, .slice none 0 0] 26)) hb; replace nL := nL.below hX (Nat.le_refl _); replace xL := xL.on hX; clear pL pL'; obtain ⟨pL, pL'⟩ := xL.cells; replace hB := hB.trans (hX.mono hB.size); (try (have lz := zb.lt; obtain ⟨cz, cz'⟩ := zb.cells; obtain ⟨fz, fz'⟩ := zb.free)); clear hb hX m1)))
        all_goals (go_wp2_with fail; go_meet)
        all_goals first
          | exact ⟨rfl, hB.alloc hB.size _⟩
          | exact ⟨rfl, below_put2 hB lzb _ _⟩
      case rest =>
        obtain ⟨rfl, hb⟩ := hcut
        replace nT := nT.below hb (Nat.le_refl _)
        replace nL := nL.below hb (Nat.le_refl _)
        replace xT := xT.on hb; clear pT pT'; obtain ⟨pT, pT'⟩ := xT.cells
        replace xL := xL.on hb; clear pL pL'; obtain ⟨pL, pL'⟩ := xL.cells
        replace hB := hB.trans (hb.mono hB.size)
        clear hb
        go_wp2_with fail
        refine (HZ.out _ _ _ nT nL).mono ?_
        rintro e w3 ⟨⟨v, rfl, hn⟩, hb⟩
        obtain ⟨bz, az, kz, cz, rfl⟩ := hn.opened
        have nZ := hn.num
        clear hn
        replace nT := nT.below hb (Nat.le_refl _)
        replace nL := nL.below hb (Nat.le_refl _)
        replace xT := xT.on hb; clear pT pT'; obtain ⟨pT, pT'⟩ := xT.cells
        replace xL := xL.on hb; clear pL pL'; obtain ⟨pL, pL'⟩ := xL.cells
        replace hB := hB.trans (hb.mono hB.size)
        clear hb
        clear nT nL xT xL pT pT' pL pL'
        have al := (Below.refl w3.heap.size w3).alloc (Nat.le_refl _) (.cells #[.bool bz, .slice az kz cz] 26)
        have xZ := Bx.new w3 (.bool bz) (.slice az kz cz)
        replace nZ := nZ.below al (Nat.le_refl _)
        replace hB := hB.alloc hB.size (.cells #[.bool bz, .slice az kz cz] 26)
        clear al
        obtain ⟨pZ, pZ'⟩ := xZ.cells
        go_wp2_with fail
        refine (HM.out _).mono ?_
        rintro e w4 ⟨⟨aM, cM, rfl, nM⟩, hb⟩
        replace nZ := nZ.below hb (Nat.le_refl _)
        replace xZ := xZ.on hb; clear pZ pZ'; obtain ⟨pZ, pZ'⟩ := xZ.cells
        replace hB := hB.trans (hb.mono hB.size)
        clear hb
        go_wp2_with fail
        refine (HM.out _).mono ?_
        rintro e w5 ⟨⟨aN, cN, rfl, nN⟩, hb⟩
        replace nZ := nZ.below hb (Nat.le_refl _)
        replace nM := nM.below hb (Nat.le_refl _)
        replace xZ := xZ.on hb; clear pZ pZ'; obtain ⟨pZ, pZ'⟩ := xZ.cells
        replace hB := hB.trans (hb.mono hB.size)
        clear hb
        go_wp2_with fail
        refine (HQ.out _ _ _ nM nN).mono ?_
        rintro e w6 ⟨⟨v, rfl, hn⟩, hb⟩
        obtain ⟨bS, aS, kS, cS, rfl⟩ := hn.opened
        have nS := hn.num
        clear hn
        replace nZ := nZ.below hb (Nat.le_refl _)
        replace nM := nM.below hb (Nat.le_refl _)
        replace nN := nN.below hb (Nat.le_refl _)
        replace xZ := xZ.on hb; clear pZ pZ'; obtain ⟨pZ, pZ'⟩ := xZ.cells
        replace hB := hB.trans (hb.mono hB.size)
        clear hb
        clear nM nN
        obtain ⟨rfl, lcs, -⟩ := num_cells nS q0.out
        have al := (Below.refl w6.heap.size w6).alloc (Nat.le_refl _) (.cells #[.bool bS, .slice aS 1024 cS] 26)
        have xS := Bx.new w6 (.bool bS) (.slice aS 1024 cS)
        replace nZ := nZ.below al (Nat.le_refl _)
        replace nS := nS.below al (Nat.le_refl _)
        replace xZ := xZ.on al; clear pZ pZ'; obtain ⟨pZ, pZ'⟩ := xZ.cells
        replace hB := hB.alloc hB.size (.cells #[.bool bS, .slice aS 1024 cS] 26)
        clear al
        obtain ⟨pS, pS'⟩ := xS.cells
        go_wp2_with fail
        refine (HNl.out _).mono ?_
        rintro e w7 ⟨⟨v, rfl, hn⟩, hb⟩
        obtain ⟨ba, aa, ka, ca, rfl⟩ := hn.opened
        have n7 := hn.num
        clear hn
        replace nZ := nZ.below hb (Nat.le_refl _)
        replace nS := nS.below hb (Nat.le_refl _)
        replace xZ := xZ.on hb; clear pZ pZ'; obtain ⟨pZ, pZ'⟩ := xZ.cells
        replace xS := xS.on hb; clear pS pS'; obtain ⟨pS, pS'⟩ := xS.cells
        replace hB := hB.trans (hb.mono hB.size)
        clear hb
        go_wp2_with fail
        refine (HI1.out _ _ n7).mono ?_
        rintro e w8 ⟨rfl, hb⟩
        clear n7
        replace nZ := nZ.below hb (Nat.le_refl _)
        replace nS := nS.below hb (Nat.le_refl _)
        replace xZ := xZ.on hb; clear pZ pZ'; obtain ⟨pZ, pZ'⟩ := xZ.cells
        replace xS := xS.on hb; clear pS pS'; obtain ⟨pS, pS'⟩ := xS.cells
        replace hB := hB.trans (hb.mono hB.size)
        clear hb
        go_wp2_with fail
        refine (HNl.out _).mono ?_
        rintro e w9 ⟨⟨v, rfl, hn⟩, hb⟩
        obtain ⟨bd, ad, kd, cd, rfl⟩ := hn.opened
        have n9 := abs_least hn.num
        clear hn
        replace nZ := nZ.below hb (Nat.le_refl _)
        replace nS := nS.below hb (Nat.le_refl _)
        replace xZ := xZ.on hb; clear pZ pZ'; obtain ⟨pZ, pZ'⟩ := xZ.cells
        replace xS := xS.on hb; clear pS pS'; obtain ⟨pS, pS'⟩ := xS.cells
        replace hB := hB.trans (hb.mono hB.size)
        clear hb
        go_wp2_with fail
        refine (HI2.out _ _ n9).mono ?_
        rintro e w10 ⟨rfl, hb⟩
        clear n9
        replace nZ := nZ.below hb (Nat.le_refl _)
        replace nS := nS.below hb (Nat.le_refl _)
        replace xZ := xZ.on hb; clear pZ pZ'; obtain ⟨pZ, pZ'⟩ := xZ.cells
        replace xS := xS.on hb; clear pS pS'; obtain ⟨pS, pS'⟩ := xS.cells
        replace hB := hB.trans (hb.mono hB.size)
        clear hb
        go_wp2_with fail
        refine (HNt.out _).mono ?_
        rintro e w11 ⟨⟨v, rfl, hn⟩, hb⟩
        obtain ⟨bf, af, kf, cf, rfl⟩ := hn.opened
        have n11 := hn.num
        clear hn
        replace nZ := nZ.below hb (Nat.le_refl _)
        replace nS := nS.below hb (Nat.le_refl _)
        replace xZ := xZ.on hb; clear pZ pZ'; obtain ⟨pZ, pZ'⟩ := xZ.cells
        replace xS := xS.on hb; clear pS pS'; obtain ⟨pS, pS'⟩ := xS.cells
        replace hB := hB.trans (hb.mono hB.size)
        clear hb
        go_wp2_with fail
        refine (HI3.out _ _ n11).mono ?_
        rintro e w12 ⟨rfl, hb⟩
        clear n11
        replace nZ := nZ.below hb (Nat.le_refl _)
        replace nS := nS.below hb (Nat.le_refl _)
        replace xZ := xZ.on hb; clear pZ pZ'; obtain ⟨pZ, pZ'⟩ := xZ.cells
        replace xS := xS.on hb; clear pS pS'; obtain ⟨pS, pS'⟩ := xS.cells
        replace hB := hB.trans (hb.mono hB.size)
        clear hb
        go_wp2_with fail
        refine (HIs.out _ _ nZ).mono ?_
        rintro e w13 ⟨rfl, hb⟩
        replace nZ := nZ.below hb (Nat.le_refl _)
        replace nS := nS.below hb (Nat.le_refl _)
        replace xZ := xZ.on hb; clear pZ pZ'; obtain ⟨pZ, pZ'⟩ := xZ.cells
        replace xS := xS.on hb; clear pS pS'; obtain ⟨pS, pS'⟩ := xS.cells
        replace hB := hB.trans (hb.mono hB.size)
        clear hb
        obtain ⟨-, -, G, o, rfl, hc⟩ := num_cells nS q0.out
        have c1 := hc 512 (by omega)
        rw [q2.out] at c1
        replace c1 : w13.cell? ⟨G, o + 512, none⟩ = some (.int .u16 65534) := c1
        have c0 := hc 0 (by omega)
        rw [q1.out] at c0
        replace c0 : w13.cell? ⟨G, o, none⟩ = some (.int .u16 1) := c0
        have c00 : w13.cell? ⟨G, o + 0, none⟩ = some (.int .u16 1) := c0
        clear hc
        go_wp2_with fail
        refine (HO.out _).mono ?_
        rintro e w14 ⟨⟨aO, cO, rfl, lO, hO, vO⟩, hb⟩
        replace nZ := nZ.below hb (Nat.le_refl _)
        replace nS := nS.below hb (Nat.le_refl _)
        replace xZ := xZ.on hb; clear pZ pZ'; obtain ⟨pZ, pZ'⟩ := xZ.cells
        replace xS := xS.on hb; clear pS pS'; obtain ⟨pS, pS'⟩ := xS.cells
        replace hB := hB.trans (hb.mono hB.size)
        clear hb
        go_wp2_with fail
        have HV := Valid_any false _ lO _ hO
        rw [vO] at HV
        refine HV.mono ?_
        clear HV hO vO
        rintro e w15 ⟨rfl, hb⟩
        replace hB := hB.trans (hb.mono hB.size)
        clear hb
        go_wp2_with fail
        refine (awake_any _).mono ?_
        rintro e w16 ⟨rfl, hb⟩
        replace hB := hB.trans (hb.mono hB.size)
        clear hb
        go_wp2
        go_ret
        exact ⟨rfl, hB⟩

end Go.Proofs.Ytodmbklednehbaa
