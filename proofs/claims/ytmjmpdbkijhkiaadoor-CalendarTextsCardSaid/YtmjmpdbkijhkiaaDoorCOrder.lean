/-
Texts are ordered as dates.
-/
import Derived.Test.YtmjmpdbkijhkiaaDoorCTxt2
import Derived.Sort.Walk0
namespace Go.Proofs.YtmjmpdbkijhkiaaDoor
open Go.RowKit CalT

theorem dg_lt {q r : Int} (h0 : 0 ≤ q) (h1 : q ≤ 9) (k0 : 0 ≤ r) (k1 : r ≤ 9) : dg q < dg r ↔ q < r := by
  have a := dg_toNat h0 h1
  have b := dg_toNat k0 k1
  rw [UInt8.lt_iff_toNat_lt]
  omega
theorem dg_eq {q r : Int} (h0 : 0 ≤ q) (h1 : q ≤ 9) (k0 : 0 ≤ r) (k1 : r ≤ 9) : dg q = dg r ↔ q = r := by
  have a := dg_toNat h0 h1
  have b := dg_toNat k0 k1
  rw [← UInt8.toNat_inj]
  omega

theorem dg_cons {q r : Int} {l m : List UInt8} (h0 : 0 ≤ q) (h1 : q ≤ 9) (k0 : 0 ≤ r) (k1 : r ≤ 9) : dg q :: l < dg r :: m ↔ q < r ∨ q = r ∧ l < m := by
  rw [List.cons_lt_cons_iff, dg_lt h0 h1 k0 k1, dg_eq h0 h1 k0 k1]
theorem bar_cons {l m : List UInt8} : (45 : UInt8) :: l < 45 :: m ↔ l < m := by
  rw [List.cons_lt_cons_iff]
  simp

theorem lex_four {y z q3 q2 q1 q0 r3 r2 r1 r0 : Int} {P : Prop} (hy : y = 1000 * q3 + 100 * q2 + 10 * q1 + q0) (hz : z = 1000 * r3 + 100 * r2 + 10 * r1 + r0)
    (_h3 : 0 ≤ q3 ∧ q3 ≤ 9) (h2 : 0 ≤ q2 ∧ q2 ≤ 9) (h1 : 0 ≤ q1 ∧ q1 ≤ 9) (h0 : 0 ≤ q0 ∧ q0 ≤ 9) (_k3 : 0 ≤ r3 ∧ r3 ≤ 9) (k2 : 0 ≤ r2 ∧ r2 ≤ 9) (k1 : 0 ≤ r1 ∧ r1 ≤ 9) (k0 : 0 ≤ r0 ∧ r0 ≤ 9) :
    (q3 < r3 ∨ q3 = r3 ∧ (q2 < r2 ∨ q2 = r2 ∧ (q1 < r1 ∨ q1 = r1 ∧ (q0 < r0 ∨ q0 = r0 ∧ P)))) ↔ (y < z ∨ y = z ∧ P) := by
  constructor
  · rintro (h | ⟨e3, h | ⟨e2, h | ⟨e1, h | ⟨e0, h⟩⟩⟩⟩)
    · left; omega
    · left; omega
    · left; omega
    · left; omega
    · right; exact ⟨by omega, h⟩
  · rintro (h | ⟨e, h⟩)
    · by_cases c3 : q3 = r3
      · right; refine ⟨c3, ?_⟩
        by_cases c2 : q2 = r2
        · right; refine ⟨c2, ?_⟩
          by_cases c1 : q1 = r1
          · right; refine ⟨c1, ?_⟩
            left; omega
          · left; omega
        · left; omega
      · left; omega
    · exact .inr ⟨by omega, .inr ⟨by omega, .inr ⟨by omega, .inr ⟨by omega, h⟩⟩⟩⟩

theorem lex_two {y z q1 q0 r1 r0 : Int} {P : Prop} (hy : y = 10 * q1 + q0) (hz : z = 10 * r1 + r0) (_h1 : 0 ≤ q1 ∧ q1 ≤ 9) (h0 : 0 ≤ q0 ∧ q0 ≤ 9) (_k1 : 0 ≤ r1 ∧ r1 ≤ 9) (k0 : 0 ≤ r0 ∧ r0 ≤ 9) :
    (q1 < r1 ∨ q1 = r1 ∧ (q0 < r0 ∨ q0 = r0 ∧ P)) ↔ (y < z ∨ y = z ∧ P) := by
  constructor
  · rintro (h | ⟨e1, h | ⟨e0, h⟩⟩)
    · left; omega
    · left; omega
    · right; exact ⟨by omega, h⟩
  · rintro (h | ⟨e, h⟩)
    · by_cases c1 : q1 = r1
      · right; refine ⟨c1, ?_⟩
        left; omega
      · left; omega
    · exact .inr ⟨by omega, .inr ⟨by omega, h⟩⟩

theorem txt_lex (y m d y' m' d' : Int) (hy : 0 ≤ y ∧ y < 10000) (hm : 0 ≤ m ∧ m < 100) (hd : 0 ≤ d ∧ d < 100) (hy' : 0 ≤ y' ∧ y' < 10000) (hm' : 0 ≤ m' ∧ m' < 100) (hd' : 0 ≤ d' ∧ d' < 100) :
    (strOfNums (txtI y m d)).data.toList < (strOfNums (txtI y' m' d')).data.toList ↔ (y < y' ∨ y = y' ∧ (m < m' ∨ m = m' ∧ (d < d' ∨ d = d' ∧ False))) := by
  rw [txt_bytes, txt_bytes]
  rw [dg_cons (by omega) (by omega) (by omega) (by omega), dg_cons (by omega) (by omega) (by omega) (by omega), dg_cons (by omega) (by omega) (by omega) (by omega), dg_cons (by omega) (by omega) (by omega) (by omega), bar_cons,
    dg_cons (by omega) (by omega) (by omega) (by omega), dg_cons (by omega) (by omega) (by omega) (by omega), bar_cons, dg_cons (by omega) (by omega) (by omega) (by omega), dg_cons (by omega) (by omega) (by omega) (by omega)]
  rw [lex_two (y := d) (z := d') (q1 := d / 10 % 10) (q0 := d % 10) (r1 := d' / 10 % 10) (r0 := d' % 10) (by omega) (by omega) (by omega) (by omega) (by omega) (by omega),
    lex_two (y := m) (z := m') (q1 := m / 10 % 10) (q0 := m % 10) (r1 := m' / 10 % 10) (r0 := m' % 10) (by omega) (by omega) (by omega) (by omega) (by omega) (by omega),
    lex_four (y := y) (z := y') (q3 := y / 10 / 10 / 10 % 10) (q2 := y / 10 / 10 % 10) (q1 := y / 10 % 10) (q0 := y % 10) (r3 := y' / 10 / 10 / 10 % 10) (r2 := y' / 10 / 10 % 10) (r1 := y' / 10 % 10) (r0 := y' % 10) (by omega) (by omega) (by omega) (by omega) (by omega) (by omega) (by omega) (by omega) (by omega) (by omega)]
  simp

theorem date_lex {a b : Int} (h0 : 0 ≤ a) (h1 : a < 65536) (k0 : 0 ≤ b) (k1 : b < 65536) :
    (Cal.yr (Cal.mon a) < Cal.yr (Cal.mon b) ∨ Cal.yr (Cal.mon a) = Cal.yr (Cal.mon b) ∧ (Cal.mo (Cal.mon a) < Cal.mo (Cal.mon b) ∨ Cal.mo (Cal.mon a) = Cal.mo (Cal.mon b) ∧ (Cal.dom a < Cal.dom b ∨ Cal.dom a = Cal.dom b ∧ False))) ↔ a < b := by
  obtain ⟨a0, a1, a2, a3⟩ := Cal.mon_spec h0 h1
  obtain ⟨b0, b1, b2, b3⟩ := Cal.mon_spec k0 k1
  have e : (Cal.yr (Cal.mon a) < Cal.yr (Cal.mon b) ∨ Cal.yr (Cal.mon a) = Cal.yr (Cal.mon b) ∧ (Cal.mo (Cal.mon a) < Cal.mo (Cal.mon b) ∨ Cal.mo (Cal.mon a) = Cal.mo (Cal.mon b) ∧ (Cal.dom a < Cal.dom b ∨ Cal.dom a = Cal.dom b ∧ False))) ↔ (Cal.mon a < Cal.mon b ∨ Cal.mon a = Cal.mon b ∧ Cal.dom a < Cal.dom b) := by
    unfold Cal.yr Cal.mo
    constructor
    · rintro (h | ⟨e, h | ⟨e', h | h⟩⟩)
      · left; omega
      · left; omega
      · right; omega
      · exact h.2.elim
    · rintro (h | ⟨e, h⟩)
      · by_cases c : Cal.mon a / 12 = Cal.mon b / 12
        · exact .inr ⟨by omega, .inl (by omega)⟩
        · left; omega
      · rw [e]; exact .inr ⟨rfl, .inr ⟨rfl, .inl h⟩⟩
  rw [e]
  constructor
  · rintro (h | ⟨e, h⟩)
    · have := Cal.start_lt a0 h; omega
    · unfold Cal.dom at h; rw [e] at h; omega
  · intro h
    rcases Int.lt_trichotomy (Cal.mon a) (Cal.mon b) with g | g | g
    · exact .inl g
    · refine .inr ⟨g, ?_⟩; unfold Cal.dom; rw [g]; omega
    · have := Cal.start_lt b0 g; omega

theorem txt_less {a b : Int} (h0 : 0 ≤ a) (h1 : a < 65536) (k0 : 0 ≤ b) (k1 : b < 65536) : Op.bytesLess (txt a).toList (txt b).toList = decide (a < b) := by
  obtain ⟨a0, a1, _, _⟩ := Cal.mon_spec h0 h1
  obtain ⟨b0, b1, _, _⟩ := Cal.mon_spec k0 k1
  have hy := Cal.yr_bd a0 (show Cal.mon a ≤ 2159 by omega)
  have hm := Cal.mo_bd (Cal.mon a)
  have hd := Cal.dom_bd h0 h1
  have ky := Cal.yr_bd b0 (show Cal.mon b ≤ 2159 by omega)
  have km := Cal.mo_bd (Cal.mon b)
  have kd := Cal.dom_bd k0 k1
  rw [bytesLess_eq, Lib.toList_data, Lib.toList_data]
  apply decide_eq_decide.2
  rw [← date_lex h0 h1 k0 k1]
  exact txt_lex _ _ _ _ _ _ (by omega) (by omega) (by omega) (by omega) (by omega) (by omega)

end Go.Proofs.YtmjmpdbkijhkiaaDoor
