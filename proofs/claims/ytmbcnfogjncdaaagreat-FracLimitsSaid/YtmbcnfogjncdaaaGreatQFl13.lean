/- A part of the proofs about fractions. -/
import Derived.Below
import Derived.BigQuiet
import Derived.ChangeSame
import Derived.Deep.QuietTactic
import Derived.OpenShut
import Derived.Outline
import Derived.ProofKit
import Derived.Test.YtmbcnfogjncdaaaGreatRows
import Derived.WalkKit
import Derived.Test.YtmbcnfogjncdaaaGreatQFl11
import Derived.Test.YtmbcnfogjncdaaaGreatQFl12
import Derived.Test.YtmbcnfogjncdaaaGreatQFl8
set_option maxRecDepth 100000
set_option maxHeartbeats 8000000
namespace Go.Proofs.YtmbcnfogjncdaaaGreat
open Go.RowKit Wh
attribute [local go_sem] Oper.semAt_some
theorem dig_mono {x y : Nat} (h : x ≤ y) : (dig x).length ≤ (dig y).length := (length_dig_le _ _).2 (Nat.lt_of_le_of_lt h (lt_pow_length y))
theorem dig_two {A x m : Nat} (h : x ≤ 2 * A) (hm : (dig A).length ≤ m) : (dig x).length ≤ m + 1 := (length_dig_le _ _).2 (by
 have h1 := lt_pow_length A
 have h2 : 65536 ^ (dig A).length ≤ 65536 ^ m := Nat.pow_le_pow_right (by omega) hm
 rw [Nat.pow_succ]
 omega)
theorem dig1 : dig 1 = [1] := by rw [dig_pos (by decide)]; simp [dig_zero]
theorem bit_step {A q r d : Nat} (h : A = q * (2 * d) + r) (hr : r < 2 * d) : (r < d → A = (q + q) * d + r) ∧ (¬ r < d → A = (q + q + 1) * d + (r - d) ∧ r - d < d) := by
 have e : q * (2 * d) = q * d + q * d := by rw [Nat.two_mul, Nat.mul_add]
 rw [e] at h
 rw [Nat.add_mul, Nat.add_mul, Nat.add_mul, Nat.one_mul]
 generalize q * d = z at *
 exact ⟨fun h1 => h, fun h1 => ⟨by omega, by omega⟩⟩
theorem pw_step {B n j : Nat} (h : j < n) : B * 2 ^ (n - j) = 2 * (B * 2 ^ (n - (j + 1))) := by
 obtain ⟨m, hm⟩ : ∃ m, n - j = m + 1 := ⟨n - j - 1, by omega⟩
 rw [hm, show n - (j + 1) = m by omega, Nat.pow_succ]
 rw [Nat.mul_comm (2 ^ m) 2, Nat.mul_left_comm]
theorem pw_more {B j : Nat} : B * 2 ^ j + B * 2 ^ j = B * 2 ^ (j + 1) := by rw [Nat.pow_succ, ← Nat.mul_assoc]; omega
theorem pw_le {A B j n : Nat} (h : B * 2 ^ (n - 1) ≤ A) (hj : j < n) : B * 2 ^ j ≤ A :=
 Nat.le_trans (Nat.mul_le_mul_left _ (Nat.pow_le_pow_right (by omega) (by omega))) h
theorem pw_bound {A B k m : Nat} (hB : 0 < B) (h : B * 2 ^ k ≤ A) (hm : (dig A).length ≤ m) : k < 16 * m := by
 have h1 := lt_pow_length A
 have h2 : 65536 ^ (dig A).length ≤ 65536 ^ m := Nat.pow_le_pow_right (by omega) hm
 have h3 : 1 * 2 ^ k ≤ B * 2 ^ k := Nat.mul_le_mul_right _ hB
 have h4 : (65536 : Nat) ^ m = 2 ^ (16 * m) := by rw [Nat.pow_mul]
 exact (Nat.pow_lt_pow_iff_right (a := 2) (by omega)).1 (by omega)
def D1Rel (A B : Nat) (w : World) (n d : Value) (wr : World) : Prop :=
 ∃ k : Nat, n = .int .i64 (k : Int) ∧ Lim wr d (dig (B * 2 ^ k)) ∧ (k = 0 ∨ B * 2 ^ (k - 1) ≤ A) ∧ Below w.heap.size w wr
def D2Rel (B n : Nat) (w : World) (d i : Value) (wr : World) : Prop :=
 ∃ j : Nat, j ≤ n ∧ i = .int .i64 (j : Int) ∧ Lim wr d (dig (B * 2 ^ j)) ∧ Below w.heap.size w wr
def D3Rel (A B n : Nat) (w : World) (d q r i : Value) (wr : World) : Prop :=
 ∃ j x y : Nat, j ≤ n ∧ i = .int .i64 (j : Int) ∧ Lim wr d (dig (B * 2 ^ (n - j))) ∧ Lim wr q (dig x) ∧ Lim wr r (dig y) ∧ A = x * (B * 2 ^ (n - j)) + y ∧ y < B * 2 ^ (n - j) ∧ Below w.heap.size w wr
theorem refDivd_long (sa sb : Value) (A B m : Nat) (hA0 : 0 < A) (hB0 : 0 < B) (hb1 : (dig B).length ≠ 1) (ha : (dig A).length ≤ m) (hb : (dig B).length ≤ m) (hm0 : 1 ≤ m) (hm : m ≤ 8192) (w : World) (h : Lim w sa (dig A)) (g : Lim w sb (dig B)) :
    Calls Tryz.prog 148 #[sa, sb] w fun e w' => (∃ vq vr, e = .returned (.tuple #[vq, vr]) ∧ Lim w' vq (dig (A / B)) ∧ Lim w' vr (dig (A % B))) ∧ Below w.heap.size w w' := by
  obtain ⟨i0, hi, hz0, hz1, hz2⟩ := info_parts Tryz.infoU
  obtain ⟨aa, ca, rfl⟩ := lim_slice h
  obtain ⟨ab, cb, rfl⟩ := lim_slice g
  have hb2 : (((dig B).length : Int) == 1) = false := by rw [beq_eq_false_iff_ne]; omega
  have HA := Lib.hid h
  have HB := Lib.hid g
  have HM := Lib.hid (And.intro ha (And.intro hb (And.intro hm0 hm)))
  have HB0 := Lib.hid hB0
  have HA0 := Lib.hid hA0
  clear h g ha hb hm0 hm hb1 hB0 hA0
  go_enter Tryz.func148, Tryz.ntmps148
  go_wp2
  go_loopw [6, 7] (fun n d wr => D1Rel A B w n d wr) (fun n _ _ => (16 * m + 1 - intOf n).toNat)
  case atStart => exact ⟨0, rfl, by rw [Nat.pow_zero, Nat.mul_one]; exact HB.out, .inl rfl, Below.refl _ _⟩
  case round =>
    obtain ⟨k, rfl, hd, hk, hB⟩ := hrel
    have HK := Lib.hid hk
    obtain ⟨ad, cd, rfl⟩ := lim_slice hd
    have HD := Lib.hid hd
    clear hk hd
    by_cases hlt : A < B * 2 ^ k
    · have HL := refLess_any _ _ A (B * 2 ^ k) wr (HA.out.below hB (Nat.le_refl _)) HD.out
      rw [decide_eq_true hlt] at HL
      have HL := Lib.hid HL
      have HLT := Lib.hid hlt
      clear hlt HD
      go_wp2_with fail
      refine HL.out.mono ?_
      rintro e w1 ⟨rfl, hb⟩
      replace hB := hB.trans (hb.mono hB.size); clear hb HL
      go_wp2
      go_loopw [8, 9] (fun d i wr => D2Rel B k w d i wr) (fun _ i _ => (k - intOf i).toNat)
      case atStart => exact ⟨0, Nat.zero_le _, rfl, by rw [Nat.pow_zero, Nat.mul_one]; exact HB.out.below hB (Nat.le_refl _), hB⟩
      case round =>
        clear hB
        obtain ⟨j, hj, rfl, hd, hB⟩ := hrel
        obtain ⟨ae, ce, rfl⟩ := lim_slice hd
        have HD := Lib.hid hd
        clear hd
        rcases Nat.lt_or_ge j k with hjk | hjk
        · have hjk1 : (j : Int) < (k : Int) := by omega
          have hle : B * 2 ^ j ≤ A := by
            rcases HK.out with h0 | h0
            · omega
            · exact pw_le h0 hjk
          have hlen := dig_mono hle
          have HP := refPlus_any _ _ _ _ m (Nat.le_trans hlen HM.out.1) (Nat.le_trans hlen HM.out.1) (by have := HM.out.2.2.2; omega) wr HD.out HD.out
          rw [pw_more] at HP
          have HP := Lib.hid HP
          have hkb : (k : Int) ≤ 131072 := by
            rcases HK.out with h0 | h0
            · omega
            · have h1 := pw_bound HB0.out h0 HM.out.1; have := HM.out.2.2.2; omega
          clear hle hlen HD
          go_wp2_with fail
          refine HP.out.mono ?_
          rintro e w2 ⟨⟨v, rfl, hq⟩, hb⟩
          replace hB := hB.trans (hb.mono hB.size)
          have HQ := Lib.hid hq.1
          clear hb hq HP
          go_wp2
          exact ⟨⟨j + 1, hjk, by go_num, HQ.out, hB⟩, by simp [intOf]; omega⟩
        · obtain rfl : j = k := by omega
          have hjk1 : ¬ (j : Int) < (j : Int) := by omega
          have HBL := Lib.hid hB
          clear hB
          have hl0 : 0 < (dig A).length := List.length_pos_iff.2 fun e => by have := (dig_nil_iff A).1 e; have := HA0.out; omega
          have hra := HA.out.below (HBL.out.alloc HBL.out.size (.cells #[] 59)) (Nat.le_refl _)
          obtain ⟨ba, oa, rfl⟩ := lim_addr hra hl0
          have HNW : Hid (∀ j u, (cellsOf (dig A))[j]? = some u → (wr.alloc (.cells #[] 59)).cell? ((⟨ba, oa, none⟩ : Addr).add j) = some u) := Lib.hid (fun t u hu => by
            have ht : t < (dig A).length := by
              have := (List.getElem?_eq_some_iff.1 hu).1
              simpa [cellsOf] using this
            rw [← hu, cellsOf_get _ t ht, add_eq]
            exact cell_of_lim hra t ht)
          have HON : Hid (∀ u ∈ cellsOf (dig A), u.oneCell' = true) := Lib.hid (fun u hu => by
            obtain ⟨x, _, rfl⟩ := List.mem_map.1 hu
            rfl)
          have hlm : (dig A).length ≤ 8192 := by have := HM.out; omega
          clear hl0 hra
          go_wp2_with (at_builtin; go_loud (refine wpList_append_own _ rfl _ _ 22 rfl w.heap.size 59 i0 (.int .u16 0) 1 2 Tryz.underlying22 hi hz0 hz1 hz2 rfl (by decide) _ _ [] rfl (World.ownsRow_made _ _ _ HBL.out.size (by decide) rfl) ⟨ba, oa, none⟩ (dig A).length ca (cellsOf (dig A)) rfl (by simp [cellsOf]) HNW.out HON.out (by unfold maxLen; omega) (by omega) (by simp; have := HBL.out.size; omega) ?_; intro v' wc hown hgrow _))
          simp only [Nat.zero_add, List.nil_append] at hown
          have hBc := ((Below.refl wr.heap.size wr).alloc (Nat.le_refl _) (.cells #[] 59)).grown hgrow (by simp) (fun k e => by cases e; exact Nat.le_refl _)
          have hBw := HBL.out.trans (hBc.mono HBL.out.size)
          have HC := Lib.hid (Lim.of_owns hown (by omega))
          clear hown hgrow HNW HON
          go_loopw [8, 10, 11, 12] (fun d q r i wr => D3Rel A B j w d q r i wr) (fun _ _ _ i _ => (j - intOf i).toNat)
          case atStart => exact ⟨0, 0, A, Nat.zero_le _, rfl, by rw [Nat.sub_zero]; exact HD.out.below hBc (Nat.le_refl _), by rw [dig_zero]; exact Lim.nil _, HC.out, by omega, by rw [Nat.sub_zero]; exact HLT.out, hBw⟩
          case round =>
            clear hBw hBc
            obtain ⟨t, x, y, ht, rfl, hd, hq, hr, he, hy, hB⟩ := hrel
            obtain ⟨af, cf, rfl⟩ := lim_slice hd
            obtain ⟨ag, cg, rfl⟩ := lim_slice hq
            obtain ⟨ah, ch, rfl⟩ := lim_slice hr
            have hkb : (j : Int) ≤ 131072 := by
              rcases HK.out with h0 | h0
              · omega
              · have h1 := pw_bound HB0.out h0 HM.out.1; have := HM.out.2.2.2; omega
            rcases Nat.lt_or_ge t j with htj | htj
            · have htj1 : (t : Int) < (j : Int) := by omega
              have ex : B * 2 ^ (j - t) = 2 * (B * 2 ^ (j - (t + 1))) := pw_step htj
              have hX : B * 2 ^ (j - t) ≤ 2 * A := by
                rcases HK.out with h0 | h0
                · omega
                · rw [ex]
                  have : B * 2 ^ (j - (t + 1)) ≤ A := pw_le h0 (by omega)
                  omega
              have hXl := dig_two hX HM.out.1
              have hxA : x + x ≤ A := by
                have h1 : x * 2 ≤ x * (B * 2 ^ (j - t)) := Nat.mul_le_mul_left _ (by rw [ex]; have : 0 < B * 2 ^ (j - (t + 1)) := Nat.mul_pos HB0.out (Nat.pow_pos (by omega)); omega)
                omega
              have hyA : y ≤ A := by omega
              have hhalf : B * 2 ^ (j - t) / 2 = B * 2 ^ (j - (t + 1)) := by rw [ex]; exact Nat.mul_div_cancel_left _ (by omega)
              have HH := refHalf_any _ _ (dig_Lm (B * 2 ^ (j - t))) (by have := HM.out.2.2.2; omega) wr hd
              rw [val_dig, hhalf] at HH
              rw [ex] at he hy
              obtain ⟨X, hXX⟩ : ∃ X, X = B * 2 ^ (j - (t + 1)) := ⟨_, rfl⟩
              rw [← hXX] at HH he hy
              have hs := bit_step he hy
              have hPq := fun W g => refPlus_any (.slice ag (dig x).length cg) (.slice ag (dig x).length cg) x x m (Nat.le_trans (dig_mono (show x ≤ A by omega)) HM.out.1) (Nat.le_trans (dig_mono (show x ≤ A by omega)) HM.out.1) (by have := HM.out.2.2.2; omega) W g g
              have hLs := fun v W g1 g2 => refLess_any (.slice ah (dig y).length ch) v y X W g1 g2
              have HX := Lib.hid hXX
              have HHH := Lib.hid HH
              have HPQ := Lib.hid hPq
              have HQ := Lib.hid hq
              have HR := Lib.hid hr
              have HXA := Lib.hid hxA
              have HYA := Lib.hid hyA
              clear HH hPq hq hr hd hX hXl hXX he hy hhalf
              by_cases hyx : y < X
              · rw [decide_eq_true hyx] at hLs
                have HLS := Lib.hid hLs
                have HE := Lib.hid (hs.1 hyx)
                have HYX := Lib.hid hyx
                clear hLs hs hyx hxA hyA ex
                go_wp2_with fail
                refine HHH.out.mono ?_
                rintro e w2 ⟨⟨v2, rfl, h2⟩, hb2⟩
                replace hB := hB.trans (hb2.mono hB.size)
                have q2 := HQ.out.below hb2 (Nat.le_refl _)
                have r2 := HR.out.below hb2 (Nat.le_refl _)
                have d2 := h2.1
                clear h2 hb2
                go_wp2_with fail
                refine (HPQ.out _ q2).mono ?_
                rintro e w3 ⟨⟨v3, rfl, h3⟩, hb3⟩
                replace hB := hB.trans (hb3.mono hB.size); replace r2 := r2.below hb3 (Nat.le_refl _); replace d2 := d2.below hb3 (Nat.le_refl _)
                have q3 := h3.1
                clear h3 hb3 q2
                go_wp2_with fail
                refine (HLS.out _ _ r2 d2).mono ?_
                rintro e w4 ⟨rfl, hb4⟩
                replace hB := hB.trans (hb4.mono hB.size)
                have R2 := Lib.hid (r2.below hb4 (Nat.le_refl _))
                have D2 := Lib.hid (d2.below hb4 (Nat.le_refl _))
                have Q3 := Lib.hid (q3.below hb4 (Nat.le_refl _))
                clear hb4 r2 d2 q3
                go_wp2
                exact ⟨⟨t + 1, x + x, y, htj, by go_num, by rw [← HX.out]; exact D2.out, Q3.out, R2.out, by rw [← HX.out]; exact HE.out, by rw [← HX.out]; exact HYX.out, hB⟩, by simp [intOf]; omega⟩
              · rw [decide_eq_false hyx] at hLs
                have HLS := Lib.hid hLs
                have HE := Lib.hid (hs.2 hyx)
                have hMn := fun v W g1 g2 => refMinus_any (.slice ah (dig y).length ch) v y X (by omega) (Nat.le_trans (dig_mono (show y ≤ A by omega)) (by have := HM.out; omega)) W g1 g2
                have HMN := Lib.hid hMn
                have hP1 := fun v u W g1 g2 => refPlus_any v u (x + x) 1 m (Nat.le_trans (dig_mono (show x + x ≤ A by omega)) HM.out.1) (by rw [dig1]; exact HM.out.2.2.1) (by have := HM.out.2.2.2; omega) W g1 g2
                have HP1 := Lib.hid hP1
                clear hLs hs hyx hxA hyA ex hMn hP1
                go_wp2_with fail
                refine HHH.out.mono ?_
                rintro e w2 ⟨⟨v2, rfl, h2⟩, hb2⟩
                replace hB := hB.trans (hb2.mono hB.size)
                have q2 := HQ.out.below hb2 (Nat.le_refl _)
                have r2 := HR.out.below hb2 (Nat.le_refl _)
                have d2 := h2.1
                clear h2 hb2
                go_wp2_with fail
                refine (HPQ.out _ q2).mono ?_
                rintro e w3 ⟨⟨v3, rfl, h3⟩, hb3⟩
                replace hB := hB.trans (hb3.mono hB.size); replace r2 := r2.below hb3 (Nat.le_refl _); replace d2 := d2.below hb3 (Nat.le_refl _)
                have q3 := h3.1
                clear h3 hb3 q2
                go_wp2_with fail
                refine (HLS.out _ _ r2 d2).mono ?_
                rintro e w4 ⟨rfl, hb4⟩
                replace hB := hB.trans (hb4.mono hB.size); replace r2 := r2.below hb4 (Nat.le_refl _); replace d2 := d2.below hb4 (Nat.le_refl _); replace q3 := q3.below hb4 (Nat.le_refl _); clear hb4
                go_wp2_with fail
                refine (HMN.out _ _ r2 d2).mono ?_
                rintro e w5 ⟨⟨v5, rfl, h5⟩, hb5⟩
                replace hB := hB.trans (hb5.mono hB.size); replace d2 := d2.below hb5 (Nat.le_refl _); replace q3 := q3.below hb5 (Nat.le_refl _)
                have r5 := h5.1
                clear h5 hb5 r2
                go_wp2_with fail
                have h1 := (one_limb w5 1).1
                rw [show ([1] : List Nat) = dig 1 from dig1.symm] at h1
                have hal := (Below.refl w5.heap.size w5).alloc (Nat.le_refl _) (.cells #[.int .u16 ((1 : Nat) : Int)] 59)
                replace hB := hB.trans (hal.mono hB.size); replace d2 := d2.below hal (Nat.le_refl _); replace q3 := q3.below hal (Nat.le_refl _); replace r5 := r5.below hal (Nat.le_refl _)
                refine (HP1.out _ _ _ q3 h1).mono ?_
                rintro e w6 ⟨⟨v6, rfl, h6⟩, hb6⟩
                replace hB := hB.trans (hb6.mono hB.size)
                have D2 := Lib.hid (d2.below hb6 (Nat.le_refl _))
                have R5 := Lib.hid (r5.below hb6 (Nat.le_refl _))
                have Q6 := Lib.hid h6.1
                clear hb6 d2 r5 h6 q3 h1 hal
                go_wp2
                exact ⟨⟨t + 1, x + x + 1, y - X, htj, by go_num, by rw [← HX.out]; exact D2.out, Q6.out, R5.out, by rw [← HX.out]; exact HE.out.1, by rw [← HX.out]; exact HE.out.2, hB⟩, by simp [intOf]; omega⟩
            · obtain rfl : t = j := by omega
              have ht1 : ¬ (t : Int) < (t : Int) := by omega
              rw [Nat.sub_self, Nat.pow_zero, Nat.mul_one] at he hy
              have e1 : A / B = x := by rw [he, Nat.mul_comm x B, Nat.mul_add_div HB0.out, Nat.div_eq_of_lt hy, Nat.add_zero]
              have e2 : A % B = y := by rw [he, Nat.mul_comm x B, Nat.mul_add_mod, Nat.mod_eq_of_lt hy]
              have HQ := Lib.hid hq
              have HR := Lib.hid hr
              have E1 := Lib.hid e1
              have E2 := Lib.hid e2
              clear hq hr hd he hy e1 e2
              go_wp2
              go_ret2
              exact ⟨⟨_, _, rfl, by rw [E1.out]; exact HQ.out, by rw [E2.out]; exact HR.out⟩, hB⟩
    · have HL := refLess_any _ _ A (B * 2 ^ k) wr (HA.out.below hB (Nat.le_refl _)) HD.out
      rw [decide_eq_false hlt] at HL
      have HL := Lib.hid HL
      have hle : B * 2 ^ k ≤ A := by omega
      have hlen := dig_mono hle
      have hP := fun W g => refPlus_any (.slice ad (dig (B * 2 ^ k)).length cd) (.slice ad (dig (B * 2 ^ k)).length cd) _ _ m (Nat.le_trans hlen HM.out.1) (Nat.le_trans hlen HM.out.1) (by have := HM.out.2.2.2; omega) W g g
      rw [pw_more] at hP
      have HP := Lib.hid hP
      have hkb := pw_bound HB0.out hle HM.out.1
      have hkb2 : (k : Int) ≤ 131072 := by have := HM.out.2.2.2; omega
      have HKB := Lib.hid hkb
      have HLE := Lib.hid hle
      clear hle hlen hP hkb hlt
      go_wp2_with fail
      refine HL.out.mono ?_
      rintro e w1 ⟨rfl, hb⟩
      replace hB := hB.trans (hb.mono hB.size)
      have d1 := HD.out.below hb (Nat.le_refl _)
      clear hb HL
      go_wp2_with fail
      refine (HP.out _ d1).mono ?_
      rintro e w2 ⟨⟨v, rfl, hq⟩, hb⟩
      replace hB := hB.trans (hb.mono hB.size)
      have HQ := Lib.hid hq.1
      clear hb hq HP d1
      go_wp2
      exact ⟨⟨k + 1, by go_num, HQ.out, .inr HLE.out, hB⟩, by have := HKB.out; simp [intOf]; omega⟩
end Go.Proofs.YtmbcnfogjncdaaaGreat
namespace Go.Proofs.YtmbcnfogjncdaaaGreat
open Go.RowKit Wh
theorem dig_one_limb {d : Nat} (h : 0 < d) (h2 : d < 65536) : dig d = [d] := by
 rw [dig_pos (by omega), Nat.mod_eq_of_lt h2, Nat.div_eq_of_lt h2, dig_zero]
theorem refDivided_one (sa sb : Value) (A d : Nat) (hA : (dig A).length ≤ 16384) (hd : 0 < d) (hd2 : d < 65536) (w : World) (h : Lim w sa (dig A)) (g : Lim w sb (dig d)) :
  Calls Tryz.prog 148 #[sa, sb] w fun e w' => (∃ vq vr, e = .returned (.tuple #[vq, vr]) ∧ LimF w.heap.size w' vq (dig (A / d)) ∧ LimF w.heap.size w' vr (dig (A % d))) ∧ Below w.heap.size w w' := by
 have hs := refshort_any sa (dig A) (dig_Lm A) hA d hd hd2 w h
 rw [val_dig] at hs
 have HS := Lib.hid hs
 rw [dig_one_limb hd hd2] at g
 obtain ⟨a, c, rfl⟩ := lim_slice h
 obtain ⟨b, cb, rfl⟩ := lim_slice g
 obtain ⟨X, o, rfl, hX, hc⟩ := g.block (List.cons_ne_nil _ _)
 have hc0 : w.cell? ⟨X, o, none⟩ = some (.int .u16 (d : Int)) := hc 0 (by simp)
 have hd3 : d ≤ 65535 := by omega
 clear hs hc h g hA hd2
 simp only [List.length_cons, List.length_nil, Nat.zero_add] at *
 generalize (dig A).length = la at *
 go_enter Tryz.func148, Tryz.ntmps148
 go_wp2_with fail
 refine HS.out.mono ?_
 rintro e w1 ⟨⟨vq, vr, rfl, hq, hr⟩, hb⟩
 go_wp2
 exact bodyPost_ret (v := .tuple #[vq, vr]) (by simp [results, Tryz.results148, go_sem]) rfl ⟨⟨_, _, rfl, hq, hr⟩, hb⟩
def RcRel (X Y : Nat) (wr : World) (va vb : Value) : Prop := ∃ A B : Nat, Nat.gcd A B = Nat.gcd X Y ∧ B < 65536 ∧ (dig A).length ≤ 16384 ∧ Lim wr va (dig A) ∧ Lim wr vb (dig B)
theorem refCommon_one (sa sb : Value) (X Y : Nat) (hX : (dig X).length ≤ 16384) (hY : Y < 65536) (w : World) (h : Lim w sa (dig X)) (g : Lim w sb (dig Y)) :
    Calls Tryz.prog 93 #[sa, sb] w fun e w' => (∃ v, e = .returned v ∧ Lim w' v (dig (Nat.gcd X Y))) ∧ Below w.heap.size w w' := by
  obtain ⟨a, c, rfl⟩ := lim_slice h
  obtain ⟨b, cb, rfl⟩ := lim_slice g
  go_enter Tryz.func93, Tryz.ntmps93
  go_wp2_with fail
  go_loopw [0, 1] (fun va vb wr => RcRel X Y wr va vb ∧ Below w.heap.size w wr) (fun _ vb wr => numOf wr vb)
  case atStart => exact ⟨⟨X, Y, rfl, hY, hX, h, g⟩, Below.refl _ _⟩
  case round =>
    clear h g
    obtain ⟨⟨A, B, hgc, hB6, hA, hla, hlb⟩, hB⟩ := hrel
    obtain ⟨a1, c1, rfl⟩ := lim_slice hla
    obtain ⟨b1, d1, rfl⟩ := lim_slice hlb
    rcases Nat.eq_zero_or_pos B with hB0 | hB0
    · subst hB0
      rw [Nat.gcd_zero_right] at hgc
      have hl0 : (dig 0).length = 0 := by rw [dig_zero]; rfl
      have HG := Lib.hid hgc
      rw [hl0] at *
      clear hgc
      go_wp2
      go_ret
      exact ⟨⟨_, rfl, by rw [← HG.out]; exact hla⟩, hB⟩
    · have hd := refDivided_one _ _ A B hA hB0 hB6 wr hla hlb
      have HD := Lib.hid hd
      have hl1 : (dig B).length = 1 := by rw [dig_one_limb hB0 hB6]; rfl
      have hAB : A % B < B := Nat.mod_lt _ hB0
      have hgc2 : Nat.gcd B (A % B) = Nat.gcd X Y := by rw [← hgc, Nat.gcd_comm A B, Nat.gcd_rec B A, Nat.gcd_comm]
      have hn : numOf wr (.slice b1 (dig B).length d1) = B := numOf_eq hlb
      have HN := Lib.hid hn
      have HH := Lib.hid (And.intro hAB hgc2)
      have HLB := Lib.hid hlb
      clear hd hn hAB hgc2 hgc hlb
      rw [hl1] at HD HN HLB ⊢
      go_wp2_with fail
      refine HD.out.mono ?_
      rintro e w2 ⟨⟨vq, vr, rfl, hq, hr⟩, hb⟩
      obtain ⟨ar, cr, rfl⟩ := lf_slice0 hr
      have hlb2 := HLB.out.below hb (Nat.le_refl _)
      go_wp2_with fail
      go_roundw
      case rel => exact ⟨⟨B, A % B, HH.out.2, by have := HH.out.1; omega, by rw [hl1]; omega, hlb2, hr.1⟩, hB.trans (hb.mono hB.size)⟩
      case measure => rw [numOf_eq hr.1]; have := HH.out.1; have := HN.out; omega
theorem ref2one_any (s : Value) (l : List Nat) (hl : Lm l) (w : World) (h : Lim w s l) :
  Calls Tryz.prog 92 #[s] w fun e w' => e = .returned (.bool (decide (l = [1]))) ∧ w' = w := by
 obtain ⟨a, c, rfl⟩ := lim_slice h
 match l, hl with
 | [], _ =>
  clear h
  simp only [List.length_nil]
  go_enter Tryz.func92, Tryz.ntmps92
  go_wp2
  go_ret
  exact ⟨rfl, rfl⟩
 | [x], hl =>
  obtain ⟨X, o, rfl, hX, hc⟩ := h.block (List.cons_ne_nil _ _)
  have hc0 : w.cell? ⟨X, o, none⟩ = some (.int .u16 (x : Int)) := hc 0 (by simp)
  clear hc h
  simp only [List.length_cons, List.length_nil, Nat.zero_add] at *
  go_enter Tryz.func92, Tryz.ntmps92
  go_wp2
  go_ret
  refine ⟨?_, rfl⟩
  show Ending.returned (.bool ((x : Int) == 1)) = _
  congr 2
  rw [Bool.eq_iff_iff, decide_eq_true_iff, beq_iff_eq]
  constructor
  · intro e; rw [show x = 1 from by omega]
  · intro e; cases e; rfl
 | x :: y :: l, _ =>
  clear h
  have hn : (x :: y :: l).length = l.length + 2 := rfl
  rw [hn]
  go_enter Tryz.func92, Tryz.ntmps92
  go_wp2
  go_ret
  exact ⟨by simp, rfl⟩
end Go.Proofs.YtmbcnfogjncdaaaGreat
namespace Go.Proofs.YtmbcnfogjncdaaaGreat
open Go.RowKit Wh
attribute [local go_sem] Oper.semAt_some
theorem refDivd_zero (sa sb : Value) (B : Nat) (hB0 : 0 < B) (hb1 : (dig B).length ≠ 1) (w : World) (h : Lim w sa (dig 0)) (g : Lim w sb (dig B)) :
  Calls Tryz.prog 148 #[sa, sb] w fun e w' => (∃ vq vr, e = .returned (.tuple #[vq, vr]) ∧ Lim w' vq (dig 0) ∧ Lim w' vr (dig 0)) ∧ Below w.heap.size w w' := by
 obtain ⟨i0, hi, hz0, hz1, hz2⟩ := info_parts Tryz.infoU
 have hL := refLess_any sa sb 0 B w h g
 rw [decide_eq_true hB0] at hL
 have HL := Lib.hid hL
 rw [dig_zero] at h ⊢
 obtain ⟨aa, ca, rfl, hlc, ⟨hcm, hcl, hcn⟩, hcs⟩ := h
 obtain ⟨ab, cb, rfl⟩ := lim_slice g
 have hb2 : (((dig B).length : Int) == 1) = false := by rw [beq_eq_false_iff_ne]; omega
 clear g hL hB0 hb1 hcs
 cases aa with
 | none =>
  have h0 : ca = 0 := hcn rfl
  subst h0
  clear hcn hlc hcm hcl
  go_enter Tryz.func148, Tryz.ntmps148
  go_wp2_with fail
  refine wp_loop_rounds 1 ?_
  rw [rounds_succ]
  go_wp2_with fail
  refine HL.out.mono ?_
  rintro e w1 ⟨rfl, hb⟩
  go_wp2_with fail
  refine wp_loop_rounds 1 ?_
  rw [rounds_succ]
  go_wp2_with fail
  refine wp_loop_rounds 1 ?_
  rw [rounds_succ]
  go_wp2
  go_ret2
  exact ⟨⟨_, _, rfl, Lim.nil _, ⟨some ⟨w1.heap.size, 0, none⟩, 0, rfl, Nat.le_refl _, ⟨by omega, by simp, fun e => by cases e⟩, .inl rfl⟩⟩, hb.alloc hb.size _⟩
 | some ad =>
  clear hcn hlc hcm
  go_enter Tryz.func148, Tryz.ntmps148
  go_wp2_with fail
  refine wp_loop_rounds 1 ?_
  rw [rounds_succ]
  go_wp2_with fail
  refine HL.out.mono ?_
  rintro e w1 ⟨rfl, hb⟩
  go_wp2_with fail
  refine wp_loop_rounds 1 ?_
  rw [rounds_succ]
  go_wp2_with (at_builtin; go_loud (refine wpList_append_own _ rfl _ _ 22 rfl w1.heap.size 59 i0 (.int .u16 0) 1 2 Tryz.underlying22 hi hz0 hz1 hz2 rfl (by decide) _ _ [] rfl (World.ownsRow_made _ _ _ (Nat.le_refl _) (by decide) rfl) ad 0 ca [] rfl (by simp) (fun _ _ h => by simp at h) (fun _ h => by simp at h) (by decide) (by decide) (by simp) ?_; intro v' wc hown hgrow _))
  have hBc := ((Below.refl w1.heap.size w1).alloc (Nat.le_refl _) (.cells #[] 59)).grown hgrow (by simp) (fun k e => by cases e; exact Nat.le_refl _)
  have HC := Lib.hid (Lim.of_owns (l := []) hown (by decide))
  have HB := Lib.hid (hb.trans (hBc.mono hb.size))
  clear hown hgrow hBc hb
  refine wp_loop_rounds 1 ?_
  rw [rounds_succ]
  go_wp2
  go_ret2
  exact ⟨⟨_, _, rfl, Lim.nil _, HC.out⟩, HB.out⟩
theorem refDivided_any (sa sb : Value) (A B m : Nat) (hB0 : 0 < B) (ha : (dig A).length ≤ m) (hb : (dig B).length ≤ m) (hm : m ≤ 8192) (w : World) (h : Lim w sa (dig A)) (g : Lim w sb (dig B)) :
    Calls Tryz.prog 148 #[sa, sb] w fun e w' => (∃ vq vr, e = .returned (.tuple #[vq, vr]) ∧ Lim w' vq (dig (A / B)) ∧ Lim w' vr (dig (A % B))) ∧ Below w.heap.size w w' := by
  have hl : 0 < (dig B).length := List.length_pos_iff.2 fun e => by have := (dig_nil_iff B).1 e; omega
  by_cases h1 : (dig B).length = 1
  · have hb2 : B < 65536 := by have := lt_pow_length B; rw [h1] at this; simpa using this
    exact (refDivided_one sa sb A B (by omega) hB0 hb2 w h g).mono fun _ _ ⟨⟨vq, vr, he, hq, hr⟩, hb⟩ => ⟨⟨vq, vr, he, hq.1, hr.1⟩, hb⟩
  · rcases Nat.eq_zero_or_pos A with h0 | h0
    · subst h0
      rw [Nat.zero_div, Nat.zero_mod]
      exact refDivd_zero sa sb B hB0 h1 w h g
    · exact refDivd_long sa sb A B m h0 hB0 h1 ha hb (by omega) hm w h g
def RcaRel (X Y m : Nat) (wr : World) (va vb : Value) : Prop := ∃ A B : Nat, Nat.gcd A B = Nat.gcd X Y ∧ (dig A).length ≤ m ∧ (dig B).length ≤ m ∧ Lim wr va (dig A) ∧ Lim wr vb (dig B)
theorem refCommon_any (sa sb : Value) (X Y m : Nat) (hX : (dig X).length ≤ m) (hY : (dig Y).length ≤ m) (hm : m ≤ 8192) (w : World) (h : Lim w sa (dig X)) (g : Lim w sb (dig Y)) :
    Calls Tryz.prog 93 #[sa, sb] w fun e w' => (∃ v, e = .returned v ∧ Lim w' v (dig (Nat.gcd X Y))) ∧ Below w.heap.size w w' := by
  obtain ⟨a, c, rfl⟩ := lim_slice h
  obtain ⟨b, cb, rfl⟩ := lim_slice g
  go_enter Tryz.func93, Tryz.ntmps93
  go_wp2_with fail
  go_loopw [0, 1] (fun va vb wr => RcaRel X Y m wr va vb ∧ Below w.heap.size w wr) (fun _ vb wr => numOf wr vb)
  case atStart => exact ⟨⟨X, Y, rfl, hX, hY, h, g⟩, Below.refl _ _⟩
  case round =>
    clear h g
    obtain ⟨⟨A, B, hgc, hA, hB6, hla, hlb⟩, hB⟩ := hrel
    obtain ⟨a1, c1, rfl⟩ := lim_slice hla
    obtain ⟨b1, d1, rfl⟩ := lim_slice hlb
    rcases Nat.eq_zero_or_pos B with hB0 | hB0
    · subst hB0
      rw [Nat.gcd_zero_right] at hgc
      have hl0 : (dig 0).length = 0 := by rw [dig_zero]; rfl
      have HG := Lib.hid hgc
      rw [hl0] at *
      clear hgc
      go_wp2
      go_ret
      exact ⟨⟨_, rfl, by rw [← HG.out]; exact hla⟩, hB⟩
    · have hd := refDivided_any _ _ A B m hB0 hA hB6 hm wr hla hlb
      have HD := Lib.hid hd
      have hl1 : (0 : Int) < ((dig B).length : Int) := by have := List.length_pos_iff.2 (show dig B ≠ [] from fun e => by have := (dig_nil_iff B).1 e; omega); omega
      have hAB : A % B < B := Nat.mod_lt _ hB0
      have hgc2 : Nat.gcd B (A % B) = Nat.gcd X Y := by rw [← hgc, Nat.gcd_comm A B, Nat.gcd_rec B A, Nat.gcd_comm]
      have hn : numOf wr (.slice b1 (dig B).length d1) = B := numOf_eq hlb
      have HN := Lib.hid hn
      have HH := Lib.hid (And.intro hAB hgc2)
      have HLB := Lib.hid hlb
      have HB6 := Lib.hid hB6
      clear hd hn hAB hgc2 hgc hlb hA hB6
      go_wp2_with fail
      refine HD.out.mono ?_
      rintro e w2 ⟨⟨vq, vr, rfl, hq, hr⟩, hb⟩
      obtain ⟨ar, cr, rfl⟩ := lim_slice hr
      have hlb2 := HLB.out.below hb (Nat.le_refl _)
      go_wp2_with fail
      go_roundw
      case rel => exact ⟨⟨B, A % B, HH.out.2, HB6.out, Nat.le_trans (dig_mono (Nat.le_of_lt HH.out.1)) HB6.out, hlb2, hr⟩, hB.trans (hb.mono hB.size)⟩
      case measure => rw [numOf_eq hr]; have := HH.out.1; have := HN.out; omega
end Go.Proofs.YtmbcnfogjncdaaaGreat
namespace Go.Proofs.YtmbcnfogjncdaaaGreat
open Go.RowKit Wh
attribute [local go_sem] Oper.semAt_some
def TimesRel (A B N G : Nat) (w : World) (i : Value) (wr : World) : Prop :=
 ∃ (k : Nat) (o : List Nat), k ≤ (dig A).length ∧ i = .int .i64 (k : Int) ∧ o.length = N ∧ Lm o ∧ (∀ j, k + (dig B).length ≤ j → o[j]?.getD 0 = 0) ∧ val o = val ((dig A).take k) * B ∧
  wr.ownsRow w.heap.size 59 1 (.slice (some ⟨G, 0, none⟩) N N) N (cellsOf o) ∧ Below w.heap.size w wr
def TimesIn (B N G i x V : Nat) (w : World) (n kv : Value) (wr : World) : Prop :=
 ∃ (k n' : Nat) (o : List Nat), k ≤ (dig B).length ∧ kv = .int .i64 (k : Int) ∧ n = .int .i64 (n' : Int) ∧ n' < 65536 ∧ o.length = N ∧ Lm o ∧ (∀ j, i + (dig B).length ≤ j → o[j]?.getD 0 = 0) ∧ val o + 65536 ^ (i + k) * n' = V + 65536 ^ i * (x * val ((dig B).take k)) ∧
  wr.ownsRow w.heap.size 59 1 (.slice (some ⟨G, 0, none⟩) N N) N (cellsOf o) ∧ Below w.heap.size w wr
theorem set_zero {o : List Nat} {m e v : Nat} (h : ∀ j, m ≤ j → o[j]?.getD 0 = 0) (he : e < m) : ∀ j, m ≤ j → (o.set e v)[j]?.getD 0 = 0 := fun j hj => by
 rw [List.getElem?_set_ne (by omega)]; exact h j hj
theorem refTimes_any (sa sb : Value) (A B : Nat) (ha : (dig A).length ≤ 8192) (hb : (dig B).length ≤ 8192) (w : World) (h : Lim w sa (dig A)) (g : Lim w sb (dig B)) :
    Calls Tryz.prog 61 #[sa, sb] w fun e w' => (∃ v, e = .returned v ∧ LimF w.heap.size w' v (dig (A * B))) ∧ Below w.heap.size w w' := by
  obtain ⟨i0, hi, hz0, hz1, hz2⟩ := info_parts Tryz.infoU
  obtain ⟨aa, ca, rfl⟩ := lim_slice h
  obtain ⟨ab, cb, rfl⟩ := lim_slice g
  obtain ⟨N, hN⟩ : ∃ N, N = (dig A).length + (dig B).length := ⟨_, rfl⟩
  have hN2 : N ≤ 16384 := by omega
  have hN3 : (N : Int) ≤ 16384 := by omega
  have hN4 : (N : Int) = ((dig A).length : Int) + ((dig B).length : Int) := by omega
  have haI : ((dig A).length : Int) ≤ 8192 := by omega
  have hbI : ((dig B).length : Int) ≤ 8192 := by omega
  have HA := Lib.hid h
  have HB := Lib.hid g
  have HN := Lib.hid hN
  clear h g hN ha hb
  go_enter Tryz.func61, Tryz.ntmps61
  go_wp2_with (at_make; refine wpList_make_full _ rfl _ _ 22 rfl w.heap.size 59 i0 (.int .u16 0) 1 Tryz.underlying22 hi hz0 hz1 _ _ _ _ N rfl rfl hN4.symm hN4.symm (by rw [hz2]; omega) (by unfold maxLen; omega) (Nat.le_refl _) ?_; intro w1 hown hgrow)
  rw [zeros_made] at hown
  have hB1 := (Below.refl w.heap.size w).grown hgrow (Nat.le_refl _) (fun k e => by cases e)
  clear hgrow
  go_loopw [6] (fun i wr => TimesRel A B N w.heap.size w i wr) (fun i _ => ((dig A).length - intOf i).toNat)
  case atStart => exact ⟨0, List.replicate N 0, Nat.zero_le _, rfl, by simp, Lm.zeros _, fun j _ => by rcases Nat.lt_or_ge j N with h | h <;> simp [h], by rw [val_zeros]; simp, hown, hB1⟩
  case round =>
    clear hown hB1
    obtain ⟨i, o, hil, rfl, hol, hom, hoz, hov, hrow, hB⟩ := hrel
    have HV := Lib.hid hov
    have HO := Lib.hid hol
    have HZ := Lib.hid hoz
    clear hov hol hoz
    rcases Nat.lt_or_ge i (dig A).length with hi1 | hi1
    · have hra := HA.out.below hB (Nat.le_refl _)
      obtain ⟨ba, oa, rfl⟩ := lim_addr hra (by omega)
      have hxl := (dig_Lm A).getD i
      clear hra
      have HX0 := Lib.hid (val_take_next (dig A) i)
      have HXC := Lib.hid (fun W (hW : Below w.heap.size w W) => cell_of_lim (HA.out.below hW (Nat.le_refl _)) i hi1)
      obtain ⟨x, hx⟩ : ∃ u : Nat, u = (dig A)[i]?.getD 0 := ⟨_, rfl⟩
      rw [← hx] at HX0 hxl
      have HXE := Lib.hid hx
      clear hx
      have hi2 : (i : Int) < ((dig A).length : Int) := by omega
      obtain ⟨V, hV⟩ : ∃ V, V = val o := ⟨_, rfl⟩
      have HVV := Lib.hid hV
      clear hV
      have HXL := Lib.hid hxl
      clear hxl
      go_wp2
      go_loopw [7, 8] (fun n kv wr2 => TimesIn B N w.heap.size i x V w n kv wr2) (fun _ kv _ => ((dig B).length - intOf kv).toNat)
      case atStart => exact ⟨0, 0, o, Nat.zero_le _, rfl, rfl, by omega, HO.out, hom, HZ.out, by rw [HVV.out]; simp, hrow, hB⟩
      case round =>
        clear hrow hom HZ HO hB
        obtain ⟨k, n, o2, hkl, rfl, rfl, hnl, hol, hom, hoz, hov, hrow, hB⟩ := hrel
        have HO := Lib.hid hol
        have HZ := Lib.hid hoz
        have HW := Lib.hid hov
        clear hol hoz hov
        rcases Nat.lt_or_ge k (dig B).length with hk1 | hk1
        · have hrb := HB.out.below hB (Nat.le_refl _)
          obtain ⟨bb, ob, rfl⟩ := lim_addr hrb (by omega)
          have hcb := cell_of_lim hrb k hk1
          have hca := HXC.out _ hB
          rw [← HXE.out] at hca
          have hyl := (dig_Lm B).getD k
          have hxl := HXL.out
          clear hrb
          obtain ⟨e, he⟩ : ∃ e : Nat, e = i + k := ⟨_, rfl⟩
          have heN : e < N := by have := HN.out; omega
          have hst := times_step (a := dig A) (b := dig B) (o := o2) (i := i) (k := k) (n := n) (V := V) (by rw [HO.out]; omega) (by rw [← HXE.out]; exact HW.out)
          rw [← HXE.out, ← he] at hst
          have hzl := hom.getD e
          have hfro := hrow.frozenAt e
          have hcell := hrow.cellAt e (by omega)
          rw [cellsOf_get _ _ (by rw [HO.out]; omega)] at hcell
          have HR := Lib.hid hrow
          clear hrow
          obtain ⟨y, hy⟩ : ∃ u : Nat, u = (dig B)[k]?.getD 0 := ⟨_, rfl⟩
          rw [← hy] at hcb hyl hst
          obtain ⟨z, hz⟩ : ∃ u : Nat, u = o2[e]?.getD 0 := ⟨_, rfl⟩
          rw [← hz] at hcell hzl hst
          clear hy hz
          have hbd := times_bound hnl hxl hyl hzl
          obtain ⟨p, hp⟩ : ∃ p : Nat, p = x * y := ⟨_, rfl⟩
          obtain ⟨s, hs⟩ : ∃ s : Nat, s = n + x * y + z := ⟨_, rfl⟩
          rw [← hs] at hst hbd
          have HST := Lib.hid hst
          have w1 : IntKind.i64.wrap ((x : Int) * (y : Int)) = (p : Int) := by
            rw [show (x : Int) * (y : Int) = (p : Int) from by rw [hp]; simp]
            exact IntWalk.i64_in _ (by rw [← hp] at hs; omega)
          have hps : n + p + z = s := by rw [hp]; exact hs.symm
          clear hp hs hst
          have w2 : IntKind.i64.wrap ((n : Int) + (p : Int)) = (n : Int) + (p : Int) := IntWalk.i64_in _ (by omega)
          have w3 : IntKind.i64.wrap ((n : Int) + (p : Int) + (z : Int)) = (s : Int) := by rw [IntWalk.i64_in _ (by omega)]; omega
          have w4 : (i : Int) + (k : Int) = (e : Int) := by omega
          have hxi : (x : Int) ≤ 65535 := by omega
          have hyi : (y : Int) ≤ 65535 := by omega
          have hzi : (z : Int) ≤ 65535 := by omega
          have q3 : IntKind.u16.wrap ((s : Int) % 65536) = ((s % 65536 : Nat) : Int) := by
            rw [show (s : Int) % 65536 = ((s % 65536 : Nat) : Int) from by simp, wrap_u16_nat, Nat.mod_eq_of_lt (by omega)]
          have hk2 : (k : Int) < ((dig B).length : Int) := by omega
          have heN2 : (e : Int) < (N : Int) := by omega
          have hs0 : (s : Int) < 4294967296 := by omega
          have HS := Lib.hid hbd
          have HEE := Lib.hid he
          clear hxl hyl hzl hbd hps he
          go_wp2
          go_quiet (fail)
          go_wp2
          case roundEnd =>
            have hs1 : ∀ t, ((wr.drewN t).setCell ⟨w.heap.size, e, none⟩ (.int .u16 ((s % 65536 : Nat) : Int))).ownsRow w.heap.size 59 1 (.slice (some ⟨w.heap.size, 0, none⟩) N N) N (cellsOf (o2.set e (s % 65536))) := fun t => by
              have h := (show (wr.drewN t).ownsRow w.heap.size 59 1 (.slice (some ⟨w.heap.size, 0, none⟩) N N) N (cellsOf o2) from HR.out).stored e (.int .u16 ((s % 65536 : Nat) : Int))
              rw [cellsOf_set] at h
              exact h.1
            have hl1 := HN.out
            have he := HEE.out
            have hb2 := HS.out
            try rw [show (s : Int) % 65536 = ((s % 65536 : Nat) : Int) from by simp]
            exact ⟨⟨k + 1, s / 65536, o2.set e (s % 65536), hk1, by go_num, by go_num, by omega, by rw [List.length_set]; exact HO.out, hom.set _ (by omega), set_zero HZ.out (by omega), HST.out, hs1 _, (belowN hB _).setCell (Nat.le_refl _) _⟩, by simp [intOf]; omega⟩
        · obtain rfl : k = (dig B).length := by omega
          obtain ⟨e, he⟩ : ∃ e : Nat, e = i + (dig B).length := ⟨_, rfl⟩
          have heN : e < N := by have := HN.out; omega
          have w4 : (i : Int) + ((dig B).length : Int) = (e : Int) := by omega
          have hni : (n : Int) ≤ 65535 := by omega
          have hfro := hrow.frozenAt e
          have hcell := hrow.cellAt e (by omega)
          rw [cellsOf_get _ _ (by rw [HO.out]; omega)] at hcell
          have HR := Lib.hid hrow
          have heN2 : (e : Int) < (N : Int) := by omega
          have hput := val_put (l := o2) (i := e) (x := n) (by rw [HO.out]; exact heN)
          have hz0 := HZ.out e (by omega)
          rw [hz0, Nat.mul_zero, Nat.add_zero, he, HW.out, List.take_of_length_le (Nat.le_refl _), val_dig, HVV.out, HV.out, ← Nat.mul_assoc, ← Nat.add_mul, ← HX0.out, ← he] at hput
          have HP := Lib.hid hput
          have HEE := Lib.hid he
          have HNL := Lib.hid hnl
          clear hrow hput hz0 he hnl
          go_wp2
          have hs1 := (HR.out.stored e (.int .u16 (n : Int))).1
          rw [cellsOf_set] at hs1
          have he := HEE.out
          refine ⟨⟨i + 1, o2.set e n, hi1, by go_num, by rw [List.length_set]; exact HO.out, hom.set _ HNL.out, fun j hj => by rw [List.getElem?_set_ne (by omega)]; exact HZ.out j (by omega), HP.out, hs1, hB.setCell (Nat.le_refl _) _⟩, by simp [intOf]; omega⟩
    · obtain rfl : i = (dig A).length := by omega
      have hi2 : ¬ (((dig A).length : Nat) : Int) < ((dig A).length : Int) := by omega
      have hv2 := HV.out
      rw [List.take_of_length_le (Nat.le_refl _), val_dig] at hv2
      have HE1 := Lib.hid hv2
      have hlim : Lim wr (.slice (some ⟨w.heap.size, 0, none⟩) N N) o := Lim.of_owns hrow (by rw [HO.out]; omega)
      have hfr := Fr.of_owns hrow
      clear hrow hv2
      go_wp2_with fail
      refine (refTrim_any _ o hom _ hlim).mono ?_
      rintro e w2 ⟨⟨vq, rfl, hq, hqf⟩, hb2⟩
      have hB2 := hB.trans (hb2.mono hB.size)
      have HQ : Hid (LimF w.heap.size w2 vq (dig (A * B))) := Lib.hid (by rw [← HE1.out]; exact ⟨hq, hqf _ hfr⟩)
      clear hq hqf hfr hb2 hlim
      go_wp2
      go_ret
      exact ⟨⟨_, rfl, HQ.out⟩, hB2⟩
end Go.Proofs.YtmbcnfogjncdaaaGreat
namespace Go.Proofs.YtmbcnfogjncdaaaGreat
open Go.RowKit Wh
theorem NumF.opened {B : Nat} {W : World} {v : Value} {z : Int} (h : NumF B W v z) : ∃ b a k c, v = .agg #[.bool b, .slice a k c] := by
 obtain ⟨s, rfl, hl⟩ := h
 obtain ⟨a, c, rfl⟩ := lf_slice hl
 exact ⟨_, _, _, _, rfl⟩
end Go.Proofs.YtmbcnfogjncdaaaGreat
namespace Go.Proofs.YtmbcnfogjncdaaaGreat
open Go.RowKit Wh
theorem Num.ond {W W' : World} {v : Value} {z : Int} (h : Num W v z) (hb : Below W.drew.heap.size W.drew W') : Num W' v z := h.below (((Below.refl W.heap.size W).drew).trans hb) (Nat.le_refl _)
end Go.Proofs.YtmbcnfogjncdaaaGreat
namespace Go.Proofs.YtmbcnfogjncdaaaGreat
open Go.ChangeShapes Go.WideShapes Go.ChangeAt Go.RowKit
theorem Tryz.ownKnob : ownKnob Tryz.prog.godebug = none := by kernel_rfl
theorem lawPost {H : Type} {enc : TypeId × Value → H} {P : Program} {f : Func} {s : ChangeSpec} {apart fresh handsOn again : Bool} {W W' : World} {args : Array Value} {v : Value} {ds gs : List (DataW H)} {pl pa pv : List MemPlace}
  (hw : DataW.Whole enc P f.params.toList s.vars apart W args.toList ds gs pl) (hb : Below W.heap.size W W') (hpl : pl = pa ++ pv)
  (hok : ∀ (j : Nat) (t : TypeId) (r : Value), f.resultTypes[j]? = some t → (v.resultList f.resultTypes.size)[j]? = some r → Value.okWide P W' .any 0 t r)
  (hr : ∀ (b : Nat) (sp : Nat → Bool) (hd : Bool), DataW.TrodAll enc P W' b sp hd f.resultTypes.toList (v.resultList f.resultTypes.size) (s.fn H (ds ++ gs)).results [])
  (ha : ∀ sp : Nat → Bool, (∀ p ∈ pl, sp p.block = true) → DataW.TrodAll enc P W' 0 sp true f.params.toList args.toList (s.fn H (ds ++ gs)).args pa)
  (hv : ∀ sp : Nat → Bool, (∀ p ∈ pl, sp p.block = true) → DataW.TrodVars enc P W' sp s.vars (s.fn H (ds ++ gs)).vars pv) :
  s.post enc P f apart fresh handsOn again W args v W' := by
 subst hpl
 have below : ∀ p ∈ pa ++ pv, p.block < W.heap.size := fun p hp => hw.lt p hp
 have sp0 : ∀ p ∈ pa ++ pv, decide (p.block < W.heap.size) = true := fun p hp => decide_eq_true (below p hp)
 have every : ∀ p ∈ pa ++ pv, (fun _ : Nat => true) p.block = true := fun _ _ => rfl
 obtain ⟨p0, q0, h1, h2, h3, hz, hn⟩ := id hw
 have A1 := ha (fun b => decide (b < W.heap.size)) sp0
 have V1 := hv (fun b => decide (b < W.heap.size)) sp0
 have fr : ∀ b off, MemPlace.cell b off ∈ pa ++ pv → W'.frozen? ⟨b, off, none⟩ = false := fun b off hp => (hb.frozen (p := ⟨b, off, none⟩) (below _ hp)).trans (hz b off hp)
 refine ⟨ds, gs, pa ++ pv, [], pa, pv, hw, hr _ _ _, A1, V1, World.keptBut_mono (fun p hp => ⟨hp, .inr (by simpa using hp)⟩) (hb.frame (· ∈ pa ++ pv)), fun _ => ⟨hok, _, _, [] ++ pa ++ pv, ⟨[] ++ pa, pv, trodAll_append (ha _ every) (hr _ _ _), hv _ every, rfl, fun b off hp => fr b off (by simpa using hp), fun h => by simpa using hn h⟩, ?_⟩⟩
 intro p hp _
 simpa using hp
end Go.Proofs.YtmbcnfogjncdaaaGreat
