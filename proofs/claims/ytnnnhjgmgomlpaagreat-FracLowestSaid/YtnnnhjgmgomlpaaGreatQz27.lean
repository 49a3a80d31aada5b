/- A part of the proofs about fractions. -/
import Derived.Test.YtnnnhjgmgomlpaaGreatQz1
import Derived.Test.YtnnnhjgmgomlpaaGreatQz12
import Derived.Test.YtnnnhjgmgomlpaaGreatQz20
import Derived.Test.YtnnnhjgmgomlpaaGreatQz22
import Derived.Test.YtnnnhjgmgomlpaaGreatQz23
import Derived.Test.YtnnnhjgmgomlpaaGreatQz24
import Derived.Test.YtnnnhjgmgomlpaaGreatQz26
import Derived.Test.YtnnnhjgmgomlpaaGreatQz8
namespace Go.Proofs.YtnnnhjgmgomlpaaGreat
open Go.RowKit Wh
theorem dig_one_limb {d : Nat} (h : 0 < d) (h2 : d < 65536) : dig d = [d] := by
  rw [dig_pos (by omega), Nat.mod_eq_of_lt h2, Nat.div_eq_of_lt h2, dig_zero]
set_option maxRecDepth 100000 in
set_option maxHeartbeats 1000000 in
theorem refDivided_one (sa sb : Value) (A d : Nat) (hA : (dig A).length ≤ 16384) (hd : 0 < d) (hd2 : d < 65536) (w : World) (h : Lim w sa (dig A)) (g : Lim w sb (dig d)) :
    Calls Tryz.prog 124 #[sa, sb] w fun e w' => (∃ vq vr, e = .returned (.tuple #[vq, vr]) ∧ LimF w.heap.size w' vq (dig (A / d)) ∧ LimF w.heap.size w' vr (dig (A % d))) ∧ Below w.heap.size w w' := by
  have hs := refshort_any sa (dig A) (dig_Lm A) hA d hd hd2 w h
  rw [val_dig] at hs
  have HS := Lib.hid hs
  rw [dig_one_limb hd hd2] at g
  obtain ⟨a, c, rfl⟩ := lim_slice h
  obtain ⟨b, cb, rfl⟩ := lim_slice g
  obtain ⟨X, o, rfl, hX, hc⟩ := g.block (List.cons_ne_nil _ _)
  have hc0 : w.cell? ⟨X, o, none⟩ = some (.int .u16 (d : Int)) := hc 0 (by simp)
  have hd3 : d ≤ 65535 := by omega
  clear hs hc h g hA hd2
  simp only [List.length_cons, List.length_nil, Nat.zero_add] at *
  generalize (dig A).length = la at *
  go_enter Tryz.func124, Tryz.ntmps124
  go_wp2_with fail
  refine HS.out.mono ?_
  rintro e w1 ⟨⟨vq, vr, rfl, hq, hr⟩, hb⟩
  go_wp2
  exact bodyPost_ret (v := .tuple #[vq, vr]) (by simp [results, Tryz.results124, go_sem]) rfl ⟨⟨_, _, rfl, hq, hr⟩, hb⟩
def RcRel (X Y : Nat) (wr : World) (va vb : Value) : Prop := ∃ A B : Nat, Nat.gcd A B = Nat.gcd X Y ∧ B < 65536 ∧ (dig A).length ≤ 16384 ∧ Lim wr va (dig A) ∧ Lim wr vb (dig B)
set_option maxRecDepth 100000 in
set_option maxHeartbeats 1000000 in
theorem refCommon_one (sa sb : Value) (X Y : Nat) (hX : (dig X).length ≤ 16384) (hY : Y < 65536) (w : World) (h : Lim w sa (dig X)) (g : Lim w sb (dig Y)) :
    Calls Tryz.prog 80 #[sa, sb] w fun e w' => (∃ v, e = .returned v ∧ Lim w' v (dig (Nat.gcd X Y))) ∧ Below w.heap.size w w' := by
  obtain ⟨a, c, rfl⟩ := lim_slice h
  obtain ⟨b, cb, rfl⟩ := lim_slice g
  go_enter Tryz.func80, Tryz.ntmps80
  go_wp2_with fail
  go_loopw [0, 1] (fun va vb wr => RcRel X Y wr va vb ∧ Below w.heap.size w wr) (fun _ vb wr => numOf wr vb)
  case atStart => exact ⟨⟨X, Y, rfl, hY, hX, h, g⟩, Below.refl _ _⟩
  case round =>
    clear h g
    obtain ⟨⟨A, B, hgc, hB6, hA, hla, hlb⟩, hB⟩ := hrel
    obtain ⟨a1, c1, rfl⟩ := lim_slice hla
    obtain ⟨b1, d1, rfl⟩ := lim_slice hlb
    rcases Nat.eq_zero_or_pos B with hB0 | hB0
    · subst hB0
      rw [Nat.gcd_zero_right] at hgc
      have hl0 : (dig 0).length = 0 := by rw [dig_zero]; rfl
      have HG := Lib.hid hgc
      rw [hl0] at *
      clear hgc
      go_wp2
      go_ret
      exact ⟨⟨_, rfl, by rw [← HG.out]; exact hla⟩, hB⟩
    · have hd := refDivided_one _ _ A B hA hB0 hB6 wr hla hlb
      have HD := Lib.hid hd
      have hl1 : (dig B).length = 1 := by rw [dig_one_limb hB0 hB6]; rfl
      have hAB : A % B < B := Nat.mod_lt _ hB0
      have hgc2 : Nat.gcd B (A % B) = Nat.gcd X Y := by rw [← hgc, Nat.gcd_comm A B, Nat.gcd_rec B A, Nat.gcd_comm]
      have hn : numOf wr (.slice b1 (dig B).length d1) = B := numOf_eq hlb
      have HN := Lib.hid hn
      have HH := Lib.hid (And.intro hAB hgc2)
      have HLB := Lib.hid hlb
      clear hd hn hAB hgc2 hgc hlb
      rw [hl1] at HD HN HLB ⊢
      go_wp2_with fail
      refine HD.out.mono ?_
      rintro e w2 ⟨⟨vq, vr, rfl, hq, hr⟩, hb⟩
      obtain ⟨ar, cr, rfl⟩ := lf_slice0 hr
      have hlb2 := HLB.out.below hb (Nat.le_refl _)
      go_wp2_with fail
      go_roundw
      case rel => exact ⟨⟨B, A % B, HH.out.2, by have := HH.out.1; omega, by rw [hl1]; omega, hlb2, hr.1⟩, hB.trans (hb.mono hB.size)⟩
      case measure => rw [numOf_eq hr.1]; have := HH.out.1; have := HN.out; omega
set_option maxRecDepth 100000 in
set_option maxHeartbeats 1000000 in
theorem ref2one_any (s : Value) (l : List Nat) (hl : Lm l) (w : World) (h : Lim w s l) :
    Calls Tryz.prog 79 #[s] w fun e w' => e = .returned (.bool (decide (l = [1]))) ∧ w' = w := by
  obtain ⟨a, c, rfl⟩ := lim_slice h
  match l, hl with
  | [], _ =>
    clear h
    simp only [List.length_nil]
    go_enter Tryz.func79, Tryz.ntmps79
    go_wp2
    go_ret
    exact ⟨rfl, rfl⟩
  | [x], hl =>
    obtain ⟨X, o, rfl, hX, hc⟩ := h.block (List.cons_ne_nil _ _)
    have hc0 : w.cell? ⟨X, o, none⟩ = some (.int .u16 (x : Int)) := hc 0 (by simp)
    clear hc h
    simp only [List.length_cons, List.length_nil, Nat.zero_add] at *
    go_enter Tryz.func79, Tryz.ntmps79
    go_wp2
    go_ret
    refine ⟨?_, rfl⟩
    show Ending.returned (.bool ((x : Int) == 1)) = _
    congr 2
    rw [Bool.eq_iff_iff, decide_eq_true_iff, beq_iff_eq]
    constructor
    · intro e; rw [show x = 1 from by omega]
    · intro e; cases e; rfl
  | x :: y :: l, _ =>
    clear h
    have hn : (x :: y :: l).length = l.length + 2 := rfl
    rw [hn]
    go_enter Tryz.func79, Tryz.ntmps79
    go_wp2
    go_ret
    exact ⟨by simp, rfl⟩
end Go.Proofs.YtnnnhjgmgomlpaaGreat
namespace Go.Proofs.YtnnnhjgmgomlpaaGreat
open Go.RowKit Wh
theorem low_parts {n d : Int} (hd : d ≠ 0) : n.natAbs / Nat.gcd n.natAbs d.natAbs = (Rat.divInt n d).num.natAbs ∧ d.natAbs / Nat.gcd n.natAbs d.natAbs = (Rat.divInt n d).den ∧ decide ((Rat.divInt n d).num < 0) = ((decide (n < 0) != decide (d < 0)) && decide (dig (Rat.divInt n d).num.natAbs ≠ [])) := by
  obtain ⟨P1, P2⟩ := Fq.parts (n := n) hd
  have hg := Fq.cf_pos (n := n) hd
  have ha := Fq.cf_abs (n := n) hd
  have hn := Fq.cf_neg (n := n) hd
  have h0 := Fq.cf_ne (n := n) hd
  have e1 := congrArg Int.natAbs P1
  have e2 := congrArg Int.natAbs P2
  rw [Int.natAbs_mul, ha] at e1 e2
  rw [Int.natAbs_natCast] at e2
  refine ⟨?_, ?_, ?_⟩
  · conv => lhs; lhs; rw [e1]
    exact Nat.mul_div_cancel _ hg
  · conv => lhs; lhs; rw [e2]
    exact Nat.mul_div_cancel _ hg
  · generalize (Rat.divInt n d).num = z at *
    generalize Fq.cf n d = c at *
    clear P2 e1 e2 ha hg
    rw [show decide (dig z.natAbs ≠ []) = decide (z ≠ 0) from by rw [decide_eq_decide]; exact not_congr ((dig_nil_iff _).trans Int.natAbs_eq_zero)]
    subst P1
    rcases Int.lt_trichotomy z 0 with hz | hz | hz
    · rcases Int.lt_or_le d 0 with g | g
      · have hc := hn.2 g
        have := Int.mul_pos_of_neg_of_neg hz hc
        rw [decide_eq_true hz, decide_eq_false (by omega : ¬ z * c < 0), decide_eq_true g, decide_eq_true (by omega : z ≠ 0)]; rfl
      · have hc : 0 < c := by omega
        have := Int.mul_neg_of_neg_of_pos hz hc
        rw [decide_eq_true hz, decide_eq_true this, decide_eq_false (by omega : ¬ d < 0), decide_eq_true (by omega : z ≠ 0)]; rfl
    · subst hz
      rw [decide_eq_false (by omega : ¬ (0 : Int) < 0), decide_eq_false (by simp : ¬ (0 : Int) ≠ 0), Bool.and_false]
    · rcases Int.lt_or_le d 0 with g | g
      · have hc := hn.2 g
        have := Int.mul_neg_of_pos_of_neg hz hc
        rw [decide_eq_false (by omega : ¬ z < 0), decide_eq_true this, decide_eq_true g]; rfl
      · have hc : 0 < c := by omega
        have := Int.mul_pos hz hc
        rw [decide_eq_false (by omega : ¬ z < 0), decide_eq_false (by omega : ¬ z * c < 0), decide_eq_false (by omega : ¬ d < 0)]; rfl
theorem low_fra {W : World} {n d : Int} (hd : d ≠ 0) {bn bd m1 m2 : Bool} (en : bn = decide (n < 0)) (ed : bd = decide (d < 0)) {s t : Value} {A B : Nat} (h1 : Lim W s (dig A)) (h2 : Lim W t (dig B)) (hA : A = n.natAbs / Nat.gcd n.natAbs d.natAbs) (hB : B = d.natAbs / Nat.gcd n.natAbs d.natAbs) (hm1 : m1 = ((bn != bd) && decide (dig A ≠ []))) (hm2 : m2 = false) : Fra W (.agg #[.bool m1, s, .bool m2, t]) (Rat.divInt n d) := by
  obtain ⟨e1, e2, e3⟩ := low_parts (n := n) hd
  rw [e1] at hA
  rw [e2] at hB
  subst hA; subst hB
  refine ⟨s, t, ?_, h1, h2⟩
  rw [hm1, hm2, en, ed, e3]
theorem lim_of_num {W : World} {b : Bool} {s : Value} {z : Int} (h : Num W (.agg #[.bool b, s]) z) : b = decide (z < 0) ∧ Lim W s (dig z.natAbs) := by
  obtain ⟨s', e, h⟩ := h
  simp only [Value.agg.injEq, Array.mk.injEq, List.cons.injEq, Value.bool.injEq, and_true] at e
  obtain ⟨rfl, rfl⟩ := e
  exact ⟨rfl, h⟩
theorem refMake_ex (b : Bool) (s : Value) (l : List Nat) (w : World) (h : Lim w s l) :
    Calls Tryz.prog 114 #[.bool b, s] w fun e w' => (∃ m, e = .returned (.agg #[.bool m, s]) ∧ m = (b && decide (l ≠ []))) ∧ Below w.heap.size w w' :=
  (refMake_any b s l w h).mono fun _ _ ⟨he, hb⟩ => ⟨⟨_, he, rfl⟩, hb⟩
set_option maxRecDepth 100000 in
set_option maxHeartbeats 2000000 in
theorem Lowest_one (bn : Bool) (an : Option Addr) (kn cn : Nat) (bd : Bool) (ad : Option Addr) (kd cd : Nat) (n d : Int) (hn : (dig n.natAbs).length ≤ 16384) (hd0 : d ≠ 0) (hd2 : d.natAbs < 65536) (hg : Nat.gcd n.natAbs d.natAbs = 1) (w : World) (nn : Num w (.agg #[.bool bn, .slice an kn cn]) n) (nd : Num w (.agg #[.bool bd, .slice ad kd cd]) d) :
    Calls Tryz.prog 71 #[.agg #[.bool bn, .slice an kn cn], .agg #[.bool bd, .slice ad kd cd]] w fun e w' => (∃ v, e = .returned v ∧ Fra w' v (Rat.divInt n d)) ∧ Below w.heap.size w w' := by
  obtain ⟨en, ln⟩ := lim_of_num nn
  obtain ⟨ed, ld⟩ := lim_of_num nd
  have HC := Lib.hid (fun W (hW : Below w.heap.size w W) => refCommon_one (.slice an kn cn) (.slice ad kd cd) n.natAbs d.natAbs hn hd2 W (ln.below hW (Nat.le_refl _)) (ld.below hW (Nat.le_refl _)))
  have ho := fun s W (h : Lim W s (dig (Nat.gcd n.natAbs d.natAbs))) => ref2one_any s _ (dig_Lm _) W h
  rw [hg] at ho
  simp only [show dig 1 = [1] from dig_one_limb (by decide) (by decide), decide_true] at ho
  have HO := Lib.hid ho
  have HM1 := Lib.hid (fun b W (hW : Below w.heap.size w W) => refMake_ex b (.slice an kn cn) (dig n.natAbs) W (ln.below hW (Nat.le_refl _)))
  have HM2 := Lib.hid (fun W (hW : Below w.heap.size w W) => refMake_ex false (.slice ad kd cd) (dig d.natAbs) W (ld.below hW (Nat.le_refl _)))
  have LN := Lib.hid (And.intro (And.intro en ed) (And.intro ln ld))
  have HG := Lib.hid hg
  have HN := Lib.hid hd0
  clear ho hg hn hd2 en ed ln ld nn nd hd0
  have hB := Below.refl w.heap.size w
  obtain ⟨al, xn, hN⟩ := mk hB #[.bool bn, .slice an kn cn] 24
  replace hB := hN
  clear al hN
  try simp only [World.size_alloc] at xn
  obtain ⟨al, xd, hN⟩ := mk hB #[.bool bd, .slice ad kd cd] 24
  replace xn := xn.on al
  replace hB := hN
  clear al hN
  try simp only [World.size_alloc] at xd
  obtain ⟨al, xr, hN⟩ := mk hB #[.bool false, .slice none 0 0, .bool false, .slice none 0 0] 26
  replace xn := xn.on al
  replace xd := xd.on al
  replace hB := hN
  clear al hN
  try simp only [World.size_alloc] at xr
  go_enter Tryz.func71, Tryz.ntmps71
  have pn := xn.all2
  have pd := xd.all2
  have pr := xr.all4
  go_wp2_with fail
  clear pn pd pr
  refine (HC.out _ hB).mono ?_
  rintro e w1 ⟨⟨v, rfl, lg⟩, hb⟩
  obtain ⟨ag, cg, rfl⟩ := lim_slice lg
  replace xn := xn.on hb
  replace xd := xd.on hb
  replace xr := xr.on hb
  have hz1 := hb.size
  try simp at hz1
  replace hB := hB.trans (hb.mono hB.size)
  clear hb
  have lg1 := lg; rw [HG.out] at lg1
  clear lg1
  have pn := xn.all2
  have pd := xd.all2
  have pr := xr.all4
  go_wp2_with fail
  refine (HO.out _ _ (by rw [← show dig (Nat.gcd n.natAbs d.natAbs) = [1] from by rw [HG.out]; exact dig_one_limb (by decide) (by decide)]; exact lg)).mono ?_
  rintro e w2 ⟨rfl, rfl⟩
  go_wp2_with fail
  clear pn pd pr
  have qn := xn.lt
  have qd := xd.lt
  obtain ⟨gn0, gn1⟩ := xn.cells2
  obtain ⟨gd0, gd1⟩ := xd.cells2
  refine wp_region_noPanic ?_
  refine wp_region_held_drew (S := (fun w' => w'.cell? ⟨w.heap.size, 0, none⟩ = some (.bool bn) ∧ w'.cell? ⟨w.heap.size, 1, none⟩ = some (.slice an kn cn) ∧ w'.cell? ⟨w.heap.size + 1, 0, none⟩ = some (.bool bd) ∧ w'.cell? ⟨w.heap.size + 1, 1, none⟩ = some (.slice ad kd cd))) (by kernel_rfl) ⟨gn0, gn1, gd0, gd1⟩ (fun hR0 => ?_)
  change wpAnyH _ _ _ _ _ 13 #[false, false, false, false, false, false, false, false, false, false, false, false, false] _ _
  clear gn0 gn1 gd0 gd1
  refine tk (i := 0) (v := ?_) rfl (by kernel_rfl) (fun _ _ _ h => h) (by rfl) ?_ (by assumption) ?_
  rotate_left 1
  · (intro w hSw; (try dsimp only at hSw); go_simp <;> (with_reducible rfl))
  (try simp only [Act.put, sa, List.set])
  refine tk (i := 1) (v := ?_) rfl (by kernel_rfl) (fun _ _ _ h => h) (by rfl) ?_ (by assumption) ?_
  rotate_left 1
  · (intro w hSw; (try dsimp only at hSw); go_simp <;> (with_reducible rfl))
  (try simp only [Act.put, sa, List.set])
  refine tk (i := 2) (v := ?_) rfl (by kernel_rfl) (fun _ _ _ h => h) (by rfl) ?_ (by assumption) ?_
  rotate_left 1
  · (intro w hSw; (try dsimp only at hSw); go_simp <;> (with_reducible rfl))
  (try simp only [Act.put, sa, List.set])
  refine tk (i := 3) (v := ?_) rfl (by kernel_rfl) (fun _ _ _ h => h) (by rfl) ?_ (by assumption) ?_
  rotate_left 1
  · (intro w hSw; (try dsimp only at hSw); go_simp <;> (with_reducible rfl))
  (try simp only [Act.put, sa, List.set])
  refine tk (i := 4) (v := ?_) rfl (by kernel_rfl) (fun _ _ _ h => h) (by rfl) ?_ (by assumption) ?_
  rotate_left 1
  · (intro w hSw; (try dsimp only at hSw); go_simp <;> (with_reducible rfl))
  (try simp only [Act.put, sa, List.set])
  refine tk (i := 5) (v := ?_) rfl (by kernel_rfl) (fun _ _ _ h => h) (by rfl) ?_ (by assumption) ?_
  rotate_left 1
  · (intro w hSw; (try dsimp only at hSw); go_simp <;> (with_reducible rfl))
  (try simp only [Act.put, sa, List.set])
  refine tk (i := 6) (v := ?_) rfl (by kernel_rfl) (fun _ _ _ h => h) (by rfl) ?_ (by assumption) ?_
  rotate_left 1
  · (intro w hSw; (try dsimp only at hSw); go_simp <;> (with_reducible rfl))
  (try simp only [Act.put, sa, List.set])
  refine tk (i := 8) (v := ?_) rfl (by kernel_rfl) (fun _ _ _ h => h) (by rfl) ?_ (by assumption) ?_
  rotate_left 1
  · (intro w hSw; (try dsimp only at hSw); go_simp <;> (with_reducible rfl))
  (try simp only [Act.put, sa, List.set])
  refine tk (i := 9) (v := ?_) rfl (by kernel_rfl) (fun _ _ _ h => h) (by rfl) ?_ (by assumption) ?_
  rotate_left 1
  · (intro w hSw; (try dsimp only at hSw); go_simp <;> (with_reducible rfl))
  (try simp only [Act.put, sa, List.set])
  refine rd1 (i := 7) (by kernel_rfl) rfl (fun K hK => ?_)
  go_simp
  go_at_call 114; have hBd := hB.drew; refine (HM1.out _ _ hBd).mono ?_; rintro e w3 ⟨⟨m1, rfl, hm1⟩, hb⟩; replace hb := (Below.refl w2.heap.size w2).drew.trans hb; replace hm1 := Lib.hid hm1; replace xn := xn.on hb; replace xd := xd.on hb; replace xr := xr.on hb; replace hB := hB.trans (hb.mono hB.size); have hz3 := hb.size
  (try go_wp2_with fail)
  refine hK.out _ _ (⟨(hb.cell (p := ⟨w.heap.size, 0, none⟩) qn).trans hR0.1, (hb.cell (p := ⟨w.heap.size, 1, none⟩) qn).trans hR0.2.1, (hb.cell (p := ⟨w.heap.size + 1, 0, none⟩) qd).trans hR0.2.2.1, (hb.cell (p := ⟨w.heap.size + 1, 1, none⟩) qd).trans hR0.2.2.2⟩) (fun hR1 => ?_)
  clear hK K hR0
  (try simp only [Act.put, sa, List.set])
  replace qn := Nat.lt_of_lt_of_le qn hz3
  replace qd := Nat.lt_of_lt_of_le qd hz3
  clear hb hBd
  refine rd1 (i := 10) (by kernel_rfl) rfl (fun K hK => ?_)
  go_simp
  go_at_call 114; have hBd := hB; refine (HM2.out _ hBd).mono ?_; rintro e w4 ⟨⟨m2, rfl, hm2⟩, hb⟩; replace hm2 := Lib.hid hm2; replace xn := xn.on hb; replace xd := xd.on hb; replace xr := xr.on hb; replace hB := hB.trans (hb.mono hB.size); have hz4 := hb.size
  (try go_wp2_with fail)
  refine hK.out _ _ (⟨(hb.cell (p := ⟨w.heap.size, 0, none⟩) qn).trans hR1.1, (hb.cell (p := ⟨w.heap.size, 1, none⟩) qn).trans hR1.2.1, (hb.cell (p := ⟨w.heap.size + 1, 0, none⟩) qd).trans hR1.2.2.1, (hb.cell (p := ⟨w.heap.size + 1, 1, none⟩) qd).trans hR1.2.2.2⟩) (fun hR2 => ?_)
  clear hK K hR1
  (try simp only [Act.put, sa, List.set])
  replace qn := Nat.lt_of_lt_of_le qn hz4
  replace qd := Nat.lt_of_lt_of_le qd hz4
  clear hb hBd
  refine tk (i := 11) (v := ?_) rfl (by kernel_rfl) (fun _ _ _ h => h) (by rfl) ?_ (by assumption) ?_
  rotate_left 1
  · (intro w hSw; (try dsimp only at hSw); go_simp <;> (with_reducible rfl))
  (try simp only [Act.put, sa, List.set])
  have pr := xr.all4
  refine rd1 (i := 12) (by kernel_rfl) rfl (fun K hK => ?_)
  go_simp
  refine hK.out _ _ (⟨cell_store4 hR2.1 (by omega), cell_store4 hR2.2.1 (by omega), cell_store4 hR2.2.2.1 (by omega), cell_store4 hR2.2.2.2 (by omega)⟩) (fun hR3 => ?_)
  clear hK K hR2
  (try simp only [Act.put, sa, List.set])
  clear pr
  replace xn := xn.put_other4 (w.heap.size + 1 + 1) (.bool m1) (.slice an kn cn) (.bool m2) (.slice ad kd cd) (by omega)
  replace xd := xd.put_other4 (w.heap.size + 1 + 1) (.bool m1) (.slice an kn cn) (.bool m2) (.slice ad kd cd) (by omega)
  replace xr := xr.put4 (.bool m1) (.slice an kn cn) (.bool m2) (.slice ad kd cd)
  replace hB := below4 hB (w.heap.size + 1 + 1) (by first | omega | (simp; omega) | simp) (.bool m1) (.slice an kn cn) (.bool m2) (.slice ad kd cd)
  refine wpAnyH_done (by kernel_rfl) ?_ _
  refine NoPanic.normal ?_
  clear hR3
  clear qn qd
  clear xn xd lg
  have pr := xr.all4
  go_wp2
  clear pr
  generalize ((((w4.setCell ⟨w.heap.size + 1 + 1, 0, none⟩ (.bool m1)).setCell ⟨w.heap.size + 1 + 1, 1, none⟩ (.slice an kn cn)).setCell ⟨w.heap.size + 1 + 1, 2, none⟩ (.bool m2)).setCell ⟨w.heap.size + 1 + 1, 3, none⟩ (.slice ad kd cd)) = WF at *
  have pr := xr.all4
  exact bodyPost_ret (v := .agg #[.bool m1, .slice an kn cn, .bool m2, .slice ad kd cd]) (by simp [results, Tryz.results71, go_sem, pr]) rfl ⟨⟨_, rfl, low_fra HN.out LN.out.1.1 LN.out.1.2 (LN.out.2.1.below hB (Nat.le_refl _)) (LN.out.2.2.below hB (Nat.le_refl _)) (by rw [HG.out, Nat.div_one]) (by rw [HG.out, Nat.div_one]) hm1.out (hm2.out.trans (Bool.false_and _))⟩, hB⟩
set_option maxRecDepth 100000 in
set_option maxHeartbeats 2000000 in
theorem Lowest_more (bn : Bool) (an : Option Addr) (kn cn : Nat) (bd : Bool) (ad : Option Addr) (kd cd : Nat) (n d : Int) (hn : (dig n.natAbs).length ≤ 16384) (hd0 : d ≠ 0) (hd2 : d.natAbs < 65536) (hg : Nat.gcd n.natAbs d.natAbs ≠ 1) (w : World) (nn : Num w (.agg #[.bool bn, .slice an kn cn]) n) (nd : Num w (.agg #[.bool bd, .slice ad kd cd]) d) :
    Calls Tryz.prog 71 #[.agg #[.bool bn, .slice an kn cn], .agg #[.bool bd, .slice ad kd cd]] w fun e w' => (∃ v, e = .returned v ∧ Fra w' v (Rat.divInt n d)) ∧ Below w.heap.size w w' := by
  obtain ⟨en, ln⟩ := lim_of_num nn
  obtain ⟨ed, ld⟩ := lim_of_num nd
  have HC := Lib.hid (fun W (hW : Below w.heap.size w W) => refCommon_one (.slice an kn cn) (.slice ad kd cd) n.natAbs d.natAbs hn hd2 W (ln.below hW (Nat.le_refl _)) (ld.below hW (Nat.le_refl _)))
  have ho := fun s W (h : Lim W s (dig (Nat.gcd n.natAbs d.natAbs))) => ref2one_any s _ (dig_Lm _) W h
  simp only [show decide (dig (Nat.gcd n.natAbs d.natAbs) = [1]) = false from decide_eq_false (fun e => hg (by have := val_dig (Nat.gcd n.natAbs d.natAbs); rw [e] at this; simpa [val] using this.symm))] at ho
  have hgp : 0 < Nat.gcd n.natAbs d.natAbs := Fq.cf_pos hd0
  have hgl : Nat.gcd n.natAbs d.natAbs < 65536 := Nat.lt_of_le_of_lt (Nat.gcd_le_right _ (by omega)) hd2
  have hdl : (dig d.natAbs).length ≤ 16384 := Nat.le_trans ((length_dig_le _ 1).2 (by omega)) (by decide)
  have HD1 := Lib.hid (fun sg W (hW : Below w.heap.size w W) (hg : Lim W sg (dig (Nat.gcd n.natAbs d.natAbs))) => refDivided_one (.slice an kn cn) sg n.natAbs (Nat.gcd n.natAbs d.natAbs) hn hgp hgl W (ln.below hW (Nat.le_refl _)) hg)
  have HD2 := Lib.hid (fun sg W (hW : Below w.heap.size w W) (hg : Lim W sg (dig (Nat.gcd n.natAbs d.natAbs))) => refDivided_one (.slice ad kd cd) sg d.natAbs (Nat.gcd n.natAbs d.natAbs) hdl hgp hgl W (ld.below hW (Nat.le_refl _)) hg)
  clear hgp hgl hdl
  have HO := Lib.hid ho
  have LN := Lib.hid (And.intro (And.intro en ed) (And.intro ln ld))
  have HG := Lib.hid hg
  have HN := Lib.hid hd0
  clear ho hg hn hd2 en ed ln ld nn nd hd0
  have hB := Below.refl w.heap.size w
  obtain ⟨al, xn, hN⟩ := mk hB #[.bool bn, .slice an kn cn] 24
  replace hB := hN
  clear al hN
  try simp only [World.size_alloc] at xn
  obtain ⟨al, xd, hN⟩ := mk hB #[.bool bd, .slice ad kd cd] 24
  replace xn := xn.on al
  replace hB := hN
  clear al hN
  try simp only [World.size_alloc] at xd
  obtain ⟨al, xr, hN⟩ := mk hB #[.bool false, .slice none 0 0, .bool false, .slice none 0 0] 26
  replace xn := xn.on al
  replace xd := xd.on al
  replace hB := hN
  clear al hN
  try simp only [World.size_alloc] at xr
  go_enter Tryz.func71, Tryz.ntmps71
  have pn := xn.all2
  have pd := xd.all2
  have pr := xr.all4
  go_wp2_with fail
  clear pn pd pr
  refine (HC.out _ hB).mono ?_
  rintro e w1 ⟨⟨v, rfl, lg⟩, hb⟩
  obtain ⟨ag, cg, rfl⟩ := lim_slice lg
  replace xn := xn.on hb
  replace xd := xd.on hb
  replace xr := xr.on hb
  have hz1 := hb.size
  try simp at hz1
  replace hB := hB.trans (hb.mono hB.size)
  clear hb
  have pn := xn.all2
  have pd := xd.all2
  have pr := xr.all4
  go_wp2_with fail
  refine (HO.out _ _ lg).mono ?_
  rintro e w2 ⟨rfl, rfl⟩
  go_wp2_with fail
  clear pn pd pr
  refine (HD1.out _ _ hB lg).mono ?_
  rintro e w3 ⟨⟨vq, vr, rfl, gq, gr⟩, hb⟩
  obtain ⟨aq, cq, rfl⟩ := lf_slice0 gq
  obtain ⟨ar, cr, rfl⟩ := lf_slice0 gr
  replace gq := gq.1
  clear gr
  replace xn := xn.on hb
  replace xd := xd.on hb
  replace xr := xr.on hb
  replace lg := lg.on hb
  have hz3 := hb.size
  try simp at hz3
  replace hB := hB.trans (hb.mono hB.size)
  clear hb
  have pn := xn.all2
  have pd := xd.all2
  have pr := xr.all4
  go_wp2_with fail
  clear pn pd pr
  refine (HD2.out _ _ hB lg).mono ?_
  rintro e w4 ⟨⟨vp, vs, rfl, gp, gs⟩, hb⟩
  obtain ⟨ap, cp, rfl⟩ := lf_slice0 gp
  obtain ⟨ae, cs, rfl⟩ := lf_slice0 gs
  replace gp := gp.1
  clear gs lg
  replace xn := xn.on hb
  replace xd := xd.on hb
  replace xr := xr.on hb
  replace gq := gq.on hb
  have hz4 := hb.size
  try simp at hz4
  replace hB := hB.trans (hb.mono hB.size)
  clear hb
  have pn := xn.all2
  have pd := xd.all2
  have pr := xr.all4
  go_wp2_with fail
  clear pn pd pr
  refine (refMake_ex _ _ _ _ gq).mono ?_
  rintro e w5 ⟨⟨m1, rfl, hm1⟩, hb⟩
  replace hm1 := Lib.hid hm1
  replace xn := xn.on hb
  replace xd := xd.on hb
  replace xr := xr.on hb
  replace gq := gq.on hb
  replace gp := gp.on hb
  have hz5 := hb.size
  try simp at hz5
  replace hB := hB.trans (hb.mono hB.size)
  clear hb
  have pn := xn.all2
  have pd := xd.all2
  have pr := xr.all4
  go_wp2_with fail
  clear pn pd pr
  refine (refMake_ex _ _ _ _ gp).mono ?_
  rintro e w6 ⟨⟨m2, rfl, hm2⟩, hb⟩
  replace hm2 := Lib.hid hm2
  replace xn := xn.on hb
  replace xd := xd.on hb
  replace xr := xr.on hb
  replace gq := gq.on hb
  replace gp := gp.on hb
  have hz6 := hb.size
  try simp at hz6
  replace hB := hB.trans (hb.mono hB.size)
  clear hb
  have pn := xn.all2
  have pd := xd.all2
  have pr := xr.all4
  go_wp2_with fail
  clear pn pd pr
  clear xn xd
  replace gq := gq.setB4 xr rfl (.bool m1) (.slice aq (dig (n.natAbs / Nat.gcd n.natAbs d.natAbs)).length cq) (.bool m2) (.slice ap (dig (d.natAbs / Nat.gcd n.natAbs d.natAbs)).length cp) rfl
  replace gp := gp.setB4 xr rfl (.bool m1) (.slice aq (dig (n.natAbs / Nat.gcd n.natAbs d.natAbs)).length cq) (.bool m2) (.slice ap (dig (d.natAbs / Nat.gcd n.natAbs d.natAbs)).length cp) rfl
  replace xr := xr.put4 (.bool m1) (.slice aq (dig (n.natAbs / Nat.gcd n.natAbs d.natAbs)).length cq) (.bool m2) (.slice ap (dig (d.natAbs / Nat.gcd n.natAbs d.natAbs)).length cp)
  replace hB := below4 hB (w.heap.size + 1 + 1) (by first | omega | (simp; omega) | simp) (.bool m1) (.slice aq (dig (n.natAbs / Nat.gcd n.natAbs d.natAbs)).length cq) (.bool m2) (.slice ap (dig (d.natAbs / Nat.gcd n.natAbs d.natAbs)).length cp)
  generalize ((((w6.setCell ⟨w.heap.size + 1 + 1, 0, none⟩ (.bool m1)).setCell ⟨w.heap.size + 1 + 1, 1, none⟩ (.slice aq (dig (n.natAbs / Nat.gcd n.natAbs d.natAbs)).length cq)).setCell ⟨w.heap.size + 1 + 1, 2, none⟩ (.bool m2)).setCell ⟨w.heap.size + 1 + 1, 3, none⟩ (.slice ap (dig (d.natAbs / Nat.gcd n.natAbs d.natAbs)).length cp)) = WF at *
  have pr := xr.all4
  exact bodyPost_ret (v := .agg #[.bool m1, .slice aq (dig (n.natAbs / Nat.gcd n.natAbs d.natAbs)).length cq, .bool m2, .slice ap (dig (d.natAbs / Nat.gcd n.natAbs d.natAbs)).length cp]) (by simp [results, Tryz.results71, go_sem, pr]) rfl ⟨⟨_, rfl, low_fra HN.out LN.out.1.1 LN.out.1.2 gq gp rfl rfl hm1.out (hm2.out.trans (Bool.false_and _))⟩, hB⟩
theorem Lowest_any (bn : Bool) (an : Option Addr) (kn cn : Nat) (bd : Bool) (ad : Option Addr) (kd cd : Nat) (n d : Int) (hn : (dig n.natAbs).length ≤ 16384) (hd0 : d ≠ 0) (hd2 : d.natAbs < 65536) (w : World) (nn : Num w (.agg #[.bool bn, .slice an kn cn]) n) (nd : Num w (.agg #[.bool bd, .slice ad kd cd]) d) :
    Calls Tryz.prog 71 #[.agg #[.bool bn, .slice an kn cn], .agg #[.bool bd, .slice ad kd cd]] w fun e w' => (∃ v, e = .returned v ∧ Fra w' v (Rat.divInt n d)) ∧ Below w.heap.size w w' := by
  by_cases hg : Nat.gcd n.natAbs d.natAbs = 1
  · exact Lowest_one bn an kn cn bd ad kd cd n d hn hd0 hd2 hg w nn nd
  · exact Lowest_more bn an kn cn bd ad kd cd n d hn hd0 hd2 hg w nn nd
set_option maxRecDepth 100000 in
set_option maxHeartbeats 1000000 in
theorem Quick_any (n d : Int) (h1 : -9223372036854775808 ≤ n) (h2 : n ≤ 9223372036854775807) (hd0 : d ≠ 0) (hd2 : d.natAbs < 65536) (w : World) :
    Calls Tryz.prog 101 #[.int .i64 n, .int .i64 d] w fun e w' => (∃ v, e = .returned v ∧ Fra w' v (Rat.divInt n d)) ∧ Below w.heap.size w w' := by
  have H1 := Lib.hid (fun W => refFromInt_any n h1 h2 W)
  have H2 := Lib.hid (fun W => refFromInt_any d (by omega) (by omega) W)
  have hl : (dig n.natAbs).length ≤ 16384 := Nat.le_trans ((length_dig_le _ 4).2 (by show n.natAbs < 18446744073709551616; omega)) (by decide)
  have HL := Lib.hid (fun bn an kn cn bd ad kd cd W nn nd => Lowest_any bn an kn cn bd ad kd cd n d hl hd0 hd2 W nn nd)
  clear h1 h2 hl hd0 hd2
  have hB := Below.refl w.heap.size w
  obtain ⟨al, xr, hN⟩ := mk hB #[.bool false, .slice none 0 0, .bool false, .slice none 0 0] 26
  replace hB := hN
  clear al hN
  try simp only [World.size_alloc] at xr
  go_enter Tryz.func101, Tryz.ntmps101
  have pr := xr.all4
  go_wp2_with fail
  clear pr
  refine (H1.out _).mono ?_
  rintro e w1 ⟨⟨v, rfl, gn⟩, hb⟩
  obtain ⟨b1, a1, k1, c1, rfl⟩ := gn.num.opened
  replace gn := gn.num
  replace xr := xr.on hb
  have hz1 := hb.size
  try simp at hz1
  replace hB := hB.trans (hb.mono hB.size)
  clear hb
  have pr := xr.all4
  go_wp2_with fail
  clear pr
  refine (H2.out _).mono ?_
  rintro e w2 ⟨⟨v2, rfl, gd⟩, hb⟩
  obtain ⟨b2, a2, k2, c2, rfl⟩ := gd.num.opened
  replace gd := gd.num
  replace xr := xr.on hb
  replace gn := gn.on hb
  have hz2 := hb.size
  try simp at hz2
  replace hB := hB.trans (hb.mono hB.size)
  clear hb
  have pr := xr.all4
  go_wp2_with fail
  clear pr
  refine (HL.out _ _ _ _ _ _ _ _ _ gn gd).mono ?_
  rintro e w3 ⟨⟨v3, rfl, gf⟩, hb⟩
  obtain ⟨b5, a5, k5, c5, b6, a6, k6, c6, rfl⟩ := gf.opened
  replace xr := xr.on hb
  replace gn := gn.on hb
  replace gd := gd.on hb
  have hz3 := hb.size
  try simp at hz3
  replace hB := hB.trans (hb.mono hB.size)
  clear hb
  clear gn gd
  have pr := xr.all4
  go_wp2_with fail
  clear pr
  replace gf := gf.setB4 xr rfl (.bool b5) (.slice a5 k5 c5) (.bool b6) (.slice a6 k6 c6) rfl
  replace xr := xr.put4 (.bool b5) (.slice a5 k5 c5) (.bool b6) (.slice a6 k6 c6)
  replace hB := below4 hB w.heap.size (by first | omega | (simp; omega) | simp) (.bool b5) (.slice a5 k5 c5) (.bool b6) (.slice a6 k6 c6)
  generalize ((((w3.setCell ⟨w.heap.size, 0, none⟩ (.bool b5)).setCell ⟨w.heap.size, 1, none⟩ (.slice a5 k5 c5)).setCell ⟨w.heap.size, 2, none⟩ (.bool b6)).setCell ⟨w.heap.size, 3, none⟩ (.slice a6 k6 c6)) = WF at *
  have pr := xr.all4
  exact bodyPost_ret (v := .agg #[.bool b5, .slice a5 k5 c5, .bool b6, .slice a6 k6 c6]) (by simp [results, Tryz.results101, go_sem, pr]) rfl ⟨⟨_, rfl, gf⟩, hB⟩
set_option maxRecDepth 100000 in
set_option maxHeartbeats 1000000 in
theorem quick_any (n d : Int) (h1 : -9223372036854775808 ≤ n) (h2 : n ≤ 9223372036854775807) (hd0 : d ≠ 0) (hd2 : d.natAbs < 65536) (w : World) :
    Calls Tryz.prog 31 #[.int .i64 n, .int .i64 d] w fun e w' => (∃ v, e = .returned v ∧ Fra w' v (Rat.divInt n d)) ∧ Below w.heap.size w w' := by
  have HQ := Lib.hid (fun W => Quick_any n d h1 h2 hd0 hd2 W)
  clear h1 h2 hd0 hd2
  have hB := Below.refl w.heap.size w
  obtain ⟨al, xr, hN⟩ := mk hB #[.bool false, .slice none 0 0, .bool false, .slice none 0 0] 26
  replace hB := hN
  clear al hN
  try simp only [World.size_alloc] at xr
  go_enter Tryz.func31, Tryz.ntmps31
  have pr := xr.all4
  go_wp2_with fail
  clear pr
  refine (HQ.out _).mono ?_
  rintro e w1 ⟨⟨v3, rfl, gf⟩, hb⟩
  obtain ⟨b5, a5, k5, c5, b6, a6, k6, c6, rfl⟩ := gf.opened
  replace xr := xr.on hb
  have hz1 := hb.size
  try simp at hz1
  replace hB := hB.trans (hb.mono hB.size)
  clear hb
  have pr := xr.all4
  go_wp2_with fail
  clear pr
  replace gf := gf.setB4 xr rfl (.bool b5) (.slice a5 k5 c5) (.bool b6) (.slice a6 k6 c6) rfl
  replace xr := xr.put4 (.bool b5) (.slice a5 k5 c5) (.bool b6) (.slice a6 k6 c6)
  replace hB := below4 hB w.heap.size (by first | omega | (simp; omega) | simp) (.bool b5) (.slice a5 k5 c5) (.bool b6) (.slice a6 k6 c6)
  generalize ((((w1.setCell ⟨w.heap.size, 0, none⟩ (.bool b5)).setCell ⟨w.heap.size, 1, none⟩ (.slice a5 k5 c5)).setCell ⟨w.heap.size, 2, none⟩ (.bool b6)).setCell ⟨w.heap.size, 3, none⟩ (.slice a6 k6 c6)) = WF at *
  have pr := xr.all4
  exact bodyPost_ret (v := .agg #[.bool b5, .slice a5 k5 c5, .bool b6, .slice a6 k6 c6]) (by simp [results, Tryz.results31, go_sem, pr]) rfl ⟨⟨_, rfl, gf⟩, hB⟩
end Go.Proofs.YtnnnhjgmgomlpaaGreat
namespace Go.Proofs.YtnnnhjgmgomlpaaGreat
open Go.RowKit Wh
set_option maxRecDepth 100000 in
set_option maxHeartbeats 1000000 in
theorem is_ok (b : Bool) (a : Option Addr) (k c : Nat) (b' : Bool) (a' : Option Addr) (k' c' : Nat) (q : Rat) (n d : Int) (h1 : -9223372036854775808 ≤ n) (h2 : n ≤ 9223372036854775807) (hd0 : d ≠ 0) (hd2 : d.natAbs < 65536) (w : World) (h : Fra w (.agg #[.bool b, .slice a k c, .bool b', .slice a' k' c']) q) :
    Calls Tryz.prog 41 #[.agg #[.bool b, .slice a k c, .bool b', .slice a' k' c'], .int .i64 0, .int .i64 n, .int .i64 d] w fun e w' => e = .returned (.bool (decide (q = Rat.divInt n d))) ∧ Below w.heap.size w w' := by
  have HQ := Lib.hid (fun W => quick_any n d h1 h2 hd0 hd2 W)
  have HS := Lib.hid (fun vb W (hW : Below w.heap.size w W) (g : Fra W vb (Rat.divInt n d)) => ref2Same_fra (.agg #[.bool b, .slice a k c, .bool b', .slice a' k' c']) vb q (Rat.divInt n d) W (h.below hW (Nat.le_refl _)) g)
  clear h h1 h2 hd0 hd2
  have hB := Below.refl w.heap.size w
  obtain ⟨al, xa, hN⟩ := mk hB #[.bool b, .slice a k c, .bool b', .slice a' k' c'] 26
  replace hB := hN
  clear al hN
  try simp only [World.size_alloc] at xa
  go_enter Tryz.func41, Tryz.ntmps41
  go_upto_region 1 with fail
  obtain ⟨wz, hwz⟩ : ∃ W, W = (w.alloc (.cells #[.bool b, .slice a k c, .bool b', .slice a' k' c'] 26)) := ⟨_, rfl⟩
  rw [← hwz] at hB xa ⊢
  clear hwz
  have qa := xa.lt
  obtain ⟨ga0, ga1, ga2, ga3⟩ := xa.cells4
  refine wp_region_noPanic ?_
  refine wp_region_held_drew (S := (fun w' => w'.cell? ⟨w.heap.size, 0, none⟩ = some (.bool b) ∧ w'.cell? ⟨w.heap.size, 1, none⟩ = some (.slice a k c) ∧ w'.cell? ⟨w.heap.size, 2, none⟩ = some (.bool b') ∧ w'.cell? ⟨w.heap.size, 3, none⟩ = some (.slice a' k' c'))) (by kernel_rfl) ⟨ga0, ga1, ga2, ga3⟩ (fun hR0 => ?_)
  change wpAnyH _ _ _ _ _ 10 #[false, false, false, false, false, false, false, false, false, false] _ _
  clear ga0 ga1 ga2 ga3
  refine tk (i := 0) (v := ?_) rfl (by kernel_rfl) (fun _ _ _ h => h) (by rfl) ?_ (by assumption) ?_
  rotate_left 1
  · (intro w hSw; (try dsimp only at hSw); go_simp <;> (with_reducible rfl))
  (try simp only [Act.put, sa, List.set])
  refine tk (i := 1) (v := ?_) rfl (by kernel_rfl) (fun _ _ _ h => h) (by rfl) ?_ (by assumption) ?_
  rotate_left 1
  · (intro w hSw; (try dsimp only at hSw); go_simp <;> (with_reducible rfl))
  (try simp only [Act.put, sa, List.set])
  refine tk (i := 2) (v := ?_) rfl (by kernel_rfl) (fun _ _ _ h => h) (by rfl) ?_ (by assumption) ?_
  rotate_left 1
  · (intro w hSw; (try dsimp only at hSw); go_simp <;> (with_reducible rfl))
  (try simp only [Act.put, sa, List.set])
  refine tk (i := 3) (v := ?_) rfl (by kernel_rfl) (fun _ _ _ h => h) (by rfl) ?_ (by assumption) ?_
  rotate_left 1
  · (intro w hSw; (try dsimp only at hSw); go_simp <;> (with_reducible rfl))
  (try simp only [Act.put, sa, List.set])
  refine tk (i := 4) (v := ?_) rfl (by kernel_rfl) (fun _ _ _ h => h) (by rfl) ?_ (by assumption) ?_
  rotate_left 1
  · (intro w hSw; (try dsimp only at hSw); go_simp <;> (with_reducible rfl))
  (try simp only [Act.put, sa, List.set])
  refine tk (i := 5) (v := ?_) rfl (by kernel_rfl) (fun _ _ _ h => h) (by rfl) ?_ (by assumption) ?_
  rotate_left 1
  · (intro w hSw; (try dsimp only at hSw); go_simp <;> (with_reducible rfl))
  (try simp only [Act.put, sa, List.set])
  refine rd1 (i := 6) (by kernel_rfl) rfl (fun K hK => ?_)
  go_simp
  go_at_call 31; have hBd := hB.drew; refine (HQ.out _).mono ?_; rintro e w1 ⟨⟨v, rfl, gf⟩, hb⟩; replace hb := (Below.refl wz.heap.size wz).drew.trans hb; obtain ⟨b5, a5, k5, c5, b6, a6, k6, c6, rfl⟩ := gf.opened; replace xa := xa.on hb; replace hB := hB.trans (hb.mono hB.size); have hz1 := hb.size
  (try go_wp2_with fail)
  refine hK.out _ _ (keep4 hb qa hR0) (fun hR1 => ?_)
  clear hK K hR0
  (try simp only [Act.put, sa, List.set])
  replace qa := Nat.lt_of_lt_of_le qa hz1
  clear hb hBd
  refine rd1 (i := 7) (by kernel_rfl) rfl (fun K hK => ?_)
  go_simp
  go_at_call 22; have hBd := hB; refine (HS.out _ _ hBd gf).mono ?_; rintro e w2 ⟨rfl, hb⟩; replace xa := xa.on hb; replace hB := hB.trans (hb.mono hB.size); have hz2 := hb.size
  (try go_wp2_with fail)
  refine hK.out _ _ (keep4 hb qa hR1) (fun hR2 => ?_)
  clear hK K hR1
  (try simp only [Act.put, sa, List.set])
  replace qa := Nat.lt_of_lt_of_le qa hz2
  clear hb hBd
  refine tk (i := 8) (v := ?_) rfl (by kernel_rfl) (fun _ _ _ h => h) (by rfl) ?_ (by assumption) ?_
  rotate_left 1
  · (intro w hSw; (try dsimp only at hSw); go_simp <;> (with_reducible rfl))
  (try simp only [Act.put, sa, List.set])
  refine tk (i := 9) (v := ?_) rfl (by kernel_rfl) (fun _ _ _ h => h) (by rfl) ?_ (by assumption) ?_
  rotate_left 1
  · (intro w hSw; (try dsimp only at hSw); go_simp <;> (with_reducible rfl))
  (try simp only [Act.put, sa, List.set])
  refine wpAnyH_done (by kernel_rfl) ?_ _
  refine NoPanic.normal ?_
  clear hR2
  clear qa
  clear xa
  have HB := Lib.hid hB
  clear hB
  go_wp2
  go_ret
  exact ⟨rfl, HB.out⟩
end Go.Proofs.YtnnnhjgmgomlpaaGreat
namespace Go.Proofs.YtnnnhjgmgomlpaaGreat
open Go.RowKit Wh
theorem frMake_lit (va vb : Value) (n d : Int) (r : Rat) (hr : Rat.divInt n d = r) (hn : Sz 1024 n) (hd : Sz 1024 d) (hd0 : d ≠ 0) (hf : Fz 256 256 r) (w : World) (h : Num w va n) (g : Num w vb d) :
    Calls Tryz.prog 17 #[va, vb] w fun e w' => (∃ v, e = .returned (.tuple #[v, .int .i64 0]) ∧ Fra w' v r) ∧ Below w.heap.size w w' := by
  subst hr
  obtain ⟨b, a, k, c, rfl⟩ := h.opened
  obtain ⟨b', a', k', c', rfl⟩ := g.opened
  exact (Make_ok b a k c b' a' k' c' n d hn hd hd0 hf.1 hf.2 w h g).mono fun _ _ ⟨⟨v, he, q⟩, hb⟩ => ⟨⟨v, he, q.fra⟩, hb⟩
theorem frAdd_lit (va vb : Value) (p q r : Rat) (hr : p + q = r) (hp : Fz 256 256 p) (hq : Fz 256 256 q) (hf : Fz 256 256 r) (w : World) (h : Fra w va p) (g : Fra w vb q) :
    Calls Tryz.prog 36 #[va, vb] w fun e w' => (∃ v, e = .returned (.tuple #[v, .int .i64 0]) ∧ Fra w' v r) ∧ Below w.heap.size w w' := by
  subst hr
  obtain ⟨b, a, k, c, b', a', k', c', rfl⟩ := h.opened
  obtain ⟨bx, ax, kx, cx, bx', ax', kx', cx', rfl⟩ := g.opened
  exact (frAdd_ok p q b a k c b' a' k' c' bx ax kx cx bx' ax' kx' cx' hp hq hf w h g).mono fun _ _ ⟨⟨v, he, q⟩, hb⟩ => ⟨⟨v, he, q.fra⟩, hb⟩
theorem frPow_lit (va : Value) (p r : Rat) (n : Int) (hr : p ^ n = r) (hn1 : -9223372036854775808 ≤ n) (hn2 : n ≤ 9223372036854775807) (h0 : p ≠ 0 ∨ 0 ≤ n) (hp : Fz 256 256 p) (hf : Fz 256 256 r) (w : World) (h : Fra w va p) :
    Calls Tryz.prog 32 #[va, .int .i64 n] w fun e w' => (∃ v, e = .returned (.tuple #[v, .int .i64 0]) ∧ Fra w' v r) ∧ Below w.heap.size w w' := by
  subst hr
  obtain ⟨b, a, k, c, b', a', k', c', rfl⟩ := h.opened
  refine (frPow_any b a k c b' a' k' c' p hp n hn1 hn2 h0 w h).mono ?_
  rintro e w' ⟨⟨v, o, rfl, h1, -⟩, hb⟩
  obtain ⟨rfl, g⟩ := h1 hf
  exact ⟨⟨v, rfl, g⟩, hb⟩
theorem frFloor_lit (va : Value) (p : Rat) (z : Int) (hz : p.num / (p.den : Int) = z) (hp : Fz 256 256 p) (w : World) (h : Fra w va p) :
    Calls Tryz.prog 57 #[va] w fun e w' => (∃ v, e = .returned (.tuple #[v, .int .i64 0]) ∧ Num w' v z) ∧ Below w.heap.size w w' := by
  subst hz
  obtain ⟨b, a, k, c, b', a', k', c', rfl⟩ := h.opened
  exact frFloor_ok b a k c b' a' k' c' p hp w h
theorem frCeil_lit (va : Value) (p : Rat) (z : Int) (hz : (if p.num % (p.den : Int) = 0 then p.num / (p.den : Int) else p.num / (p.den : Int) + 1) = z) (hp : Fz 256 256 p) (w : World) (h : Fra w va p) :
    Calls Tryz.prog 58 #[va] w fun e w' => (∃ v, e = .returned (.tuple #[v, .int .i64 0]) ∧ Num w' v z) ∧ Below w.heap.size w w' := by
  subst hz
  obtain ⟨b, a, k, c, b', a', k', c', rfl⟩ := h.opened
  by_cases hr : p.num % (p.den : Int) = 0
  · rw [if_pos hr]; exact frCeil_down b a k c b' a' k' c' p hp hr w h
  · rw [if_neg hr]; exact frCeil_up b a k c b' a' k' c' p hp hr w h
theorem frRound_lit (va vb : Value) (p u r : Rat) (m : Nat) (z : Int) (hz : (m : Int) = z) (hr : rnd p u m = r) (hm1 : 1 ≤ m) (hm2 : m ≤ 6) (hp : Fz 256 256 p) (hu : Fz 256 256 u) (hu0 : 0 < u.num) (hf : Fz 256 256 r) (w : World) (h : Fra w va p) (g : Fra w vb u) :
    Calls Tryz.prog 27 #[va, vb, .int .u8 z] w fun e w' => (∃ v, e = .returned (.tuple #[v, .int .i64 0]) ∧ Fra w' v r) ∧ Below w.heap.size w w' := by
  subst hr hz
  obtain ⟨b, a, k, c, b', a', k', c', rfl⟩ := h.opened
  obtain ⟨bx, ax, kx, cx, bx', ax', kx', cx', rfl⟩ := g.opened
  exact frRound_ok p u b a k c b' a' k' c' bx ax kx cx bx' ax' kx' cx' hp hu hu0 m hm1 hm2 hf w h g
theorem is_lit (va : Value) (p : Rat) (n d : Int) (hr : p = Rat.divInt n d) (h1 : -9223372036854775808 ≤ n) (h2 : n ≤ 9223372036854775807) (hd0 : d ≠ 0) (hd2 : d.natAbs < 65536) (w : World) (h : Fra w va p) :
    Calls Tryz.prog 41 #[va, .int .i64 0, .int .i64 n, .int .i64 d] w fun e w' => e = .returned (.bool true) ∧ Below w.heap.size w w' := by
  obtain ⟨b, a, k, c, b', a', k', c', rfl⟩ := h.opened
  have := is_ok b a k c b' a' k' c' p n d h1 h2 hd0 hd2 w h
  rwa [decide_eq_true hr] at this
theorem quick_lit (n d : Int) (r : Rat) (hr : Rat.divInt n d = r) (h1 : -9223372036854775808 ≤ n) (h2 : n ≤ 9223372036854775807) (hd0 : d ≠ 0) (hd2 : d.natAbs < 65536) (w : World) :
    Calls Tryz.prog 31 #[.int .i64 n, .int .i64 d] w fun e w' => (∃ v, e = .returned v ∧ Fra w' v r) ∧ Below w.heap.size w w' := by
  subst hr
  exact quick_any n d h1 h2 hd0 hd2 w
theorem frSame_lit (va vb : Value) (p q : Rat) (r : Bool) (hr : decide (p = q) = r) (w : World) (h : Fra w va p) (g : Fra w vb q) :
    Calls Tryz.prog 53 #[va, vb] w fun e w' => e = .returned (.bool r) ∧ Below w.heap.size w w' := by
  have := frSame_fra va vb p q w h g
  rwa [hr] at this
theorem frValid_lit (va : Value) (p : Rat) (hp : Fz 256 256 p) (w : World) (h : Fra w va p) :
    Calls Tryz.prog 51 #[va] w fun e w' => e = .returned (.bool true) ∧ Below w.heap.size w w' := frValid_ok va p hp w h
theorem refFromInt_num (n : Int) (h1 : -9223372036854775808 ≤ n) (h2 : n ≤ 9223372036854775807) (w : World) :
    Calls Tryz.prog 54 #[.int .i64 n] w fun e w' => (∃ v, e = .returned v ∧ Num w' v n) ∧ Below w.heap.size w w' :=
  (refFromInt_any n h1 h2 w).mono fun _ _ ⟨⟨v, he, q⟩, hb⟩ => ⟨⟨v, he, q.num⟩, hb⟩
theorem refSame_lit (va vb : Value) (p q : Int) (r : Bool) (hr : decide (p = q) = r) (w : World) (h : Num w va p) (g : Num w vb q) :
    Calls Tryz.prog 63 #[va, vb] w fun e w' => e = .returned (.bool r) ∧ Below w.heap.size w w' := by
  have := refSame_num va vb p q w h g
  rwa [hr] at this
theorem Fz.small (r : Rat) (h1 : r.num.natAbs < 65536) (h2 : r.den < 65536) : Fz 1 1 r := ⟨Sz.small h1, Sz.small (by rw [Int.natAbs_natCast]; exact h2)⟩
end Go.Proofs.YtnnnhjgmgomlpaaGreat
