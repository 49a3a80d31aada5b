/-
The numbers of a date's text; the order of texts.
-/
import Derived.Test.YtmjmpdbkijhkiaaDoorCText
import Derived.Test.YtmjmpdbkijhkiaaDoorCTxtMath
namespace Go.Proofs.YtmjmpdbkijhkiaaDoor
open Go.RowKit CalT

/-- A digit's byte. -/
def dg (q : Int) : UInt8 := UInt8.ofNat (48 + q).toNat

theorem dg_toNat {q : Int} (h0 : 0 ≤ q) (h1 : q ≤ 9) : ((dg q).toNat : Int) = 48 + q := by
  unfold dg
  rw [UInt8.toNat_ofNat']
  omega
theorem dg_isD {q : Int} (h0 : 0 ≤ q) (h1 : q ≤ 9) : isD (dg q) = true := decide_eq_true (by have := dg_toNat h0 h1; omega)
theorem isD_45 : isD 45 = false := by decide

theorem txt_bytes (y m d : Int) : (strOfNums (txtI y m d)).data.toList = [dg (y / 10 / 10 / 10 % 10), dg (y / 10 / 10 % 10), dg (y / 10 % 10), dg (y % 10), 45, dg (m / 10 % 10), dg (m % 10), 45, dg (d / 10 % 10), dg (d % 10)] := rfl

theorem txt_size (y m d : Int) : (strOfNums (txtI y m d)).size = 10 := by rw [strOfNums_size]; rfl

theorem four {a b c e : UInt8} {r : List UInt8} (ha : isD a = true) (hb : isD b = true) (hc : isD c = true) (he : isD e = true) :
    num (a :: b :: c :: e :: 45 :: r) = ((((a.toNat : Int) - 48) * 10 + ((b.toNat : Int) - 48)) * 10 + ((c.toNat : Int) - 48)) * 10 + ((e.toNat : Int) - 48) ∧ rest (a :: b :: c :: e :: 45 :: r) = r := by
  have h : (a :: b :: c :: e :: 45 :: r).takeWhile isD = [a, b, c, e] := by simp [ha, hb, hc, he, isD_45]
  unfold num rest cnt
  rw [h]
  simp [val]

theorem two {a b : UInt8} {r : List UInt8} (ha : isD a = true) (hb : isD b = true) :
    num (a :: b :: 45 :: r) = ((a.toNat : Int) - 48) * 10 + ((b.toNat : Int) - 48) ∧ rest (a :: b :: 45 :: r) = r := by
  have h : (a :: b :: 45 :: r).takeWhile isD = [a, b] := by simp [ha, hb, isD_45]
  unfold num rest cnt
  rw [h]
  simp [val]

theorem two_end {a b : UInt8} (ha : isD a = true) (hb : isD b = true) : num [a, b] = ((a.toNat : Int) - 48) * 10 + ((b.toNat : Int) - 48) := by
  have h : [a, b].takeWhile isD = [a, b] := by simp [ha, hb]
  unfold num
  rw [h]
  simp [val]

theorem nums_txt (y m d : Int) (hy : 0 ≤ y ∧ y < 10000) (hm : 0 ≤ m ∧ m < 100) (hd : 0 ≤ d ∧ d < 100) :
    num (lst (strOfNums (txtI y m d)).data.toList 0) = y ∧ num (lst (strOfNums (txtI y m d)).data.toList 1) = m ∧ num (lst (strOfNums (txtI y m d)).data.toList 2) = d := by
  have f := four (r := [dg (m / 10 % 10), dg (m % 10), 45, dg (d / 10 % 10), dg (d % 10)]) (dg_isD (q := y / 10 / 10 / 10 % 10) (by omega) (by omega)) (dg_isD (q := y / 10 / 10 % 10) (by omega) (by omega)) (dg_isD (q := y / 10 % 10) (by omega) (by omega)) (dg_isD (q := y % 10) (by omega) (by omega))
  have g := two (r := [dg (d / 10 % 10), dg (d % 10)]) (dg_isD (q := m / 10 % 10) (by omega) (by omega)) (dg_isD (q := m % 10) (by omega) (by omega))
  have k := two_end (dg_isD (q := d / 10 % 10) (by omega) (by omega)) (dg_isD (q := d % 10) (by omega) (by omega))
  rw [dg_toNat (by omega) (by omega), dg_toNat (by omega) (by omega), dg_toNat (by omega) (by omega), dg_toNat (by omega) (by omega)] at f
  rw [dg_toNat (by omega) (by omega), dg_toNat (by omega) (by omega)] at g k
  rw [txt_bytes]
  refine ⟨?_, ?_, ?_⟩
  · simp only [lst]
    rw [f.1]; omega
  · simp only [lst]
    rw [f.2, g.1]; omega
  · simp only [lst]
    rw [f.2, g.2, k]; omega

theorem txt_nums {day : Int} (h0 : 0 ≤ day) (h1 : day < 65536) : num (lst (txt day).data.toList 0) = Cal.yr (Cal.mon day) ∧ num (lst (txt day).data.toList 1) = Cal.mo (Cal.mon day) ∧ num (lst (txt day).data.toList 2) = Cal.dom day := by
  obtain ⟨m0, m1, _, _⟩ := Cal.mon_spec h0 h1
  have hy := Cal.yr_bd m0 (show Cal.mon day ≤ 2159 by omega)
  have hm := Cal.mo_bd (Cal.mon day)
  have hd := Cal.dom_bd h0 h1
  exact nums_txt _ _ _ (by omega) (by omega) (by omega)

theorem txt_ten (day : Int) : (txt day).size = 10 := txt_size _ _ _

end Go.Proofs.YtmjmpdbkijhkiaaDoor
