/-
'Parse' of any text; texts of numbers; what 'WholeTexts' asks of them.
-/
import Derived.Test.YtodmbklednehbaaParse
import Derived.Laws.Strings
import Derived.Lib.IndexBytes
import Derived.Test.YtodmbklednehbaaHelp
import Derived.Laws.IdiomStrings
namespace Go.Proofs.Ytodmbklednehbaa

section
open Go.RowKit Wh

theorem bytes_cons {s : ByteArray} (h : 0 < s.size) : s.data.toList = s[0] :: s.data.toList.drop 1 := by
  have h' : 0 < s.data.toList.length := by simpa using h
  have e := List.drop_eq_getElem_cons h'
  rw [List.drop_zero] at e
  exact e
theorem bytes_empty {s : ByteArray} (h : s.size = 0) : s.data.toList = [] := List.length_eq_zero_iff.1 (by simpa using h)
theorem u8_eq {a : UInt8} {n : Nat} (hn : n < 256) (h : a.toNat = n) : a = UInt8.ofNat n := by
  apply UInt8.toNat_inj.1; simp [h]; omega
theorem wf_head {d : ByteArray} (h : 0 < d.size) : (d.data.toList.head? == some 48) = decide (d[0].toNat = 48) := by
  rw [bytes_cons h, List.head?_cons]
  by_cases e : d[0].toNat = 48
  · rw [u8_eq (by omega) e]; rfl
  · rw [decide_eq_false e]
    refine beq_eq_false_iff_ne.2 fun g => e ?_
    have : d[0] = 48 := Option.some.inj g
    rw [this]; rfl
theorem neg_head {s : ByteArray} (h : 0 < s.size) : tneg s.data.toList = decide (s[0].toNat = 45) := by
  unfold tneg
  rw [bytes_cons h, List.head?_cons]
  by_cases e : s[0].toNat = 45
  · rw [u8_eq (by omega) e]; rfl
  · rw [decide_eq_false e]
    refine beq_eq_false_iff_ne.2 fun g => e ?_
    have : s[0] = 45 := Option.some.inj g
    rw [this]; rfl

/-- What 'Parse' answers. -/
def PaOut (l : List UInt8) (e : Ending) (w' : World) : Prop :=
  (twf l = false ∧ e = .returned (.tuple #[zeroW, .int .i64 10])) ∨
  (twf l = true ∧ (5120 < (tds l).length ∨ 1024 < (dig (dv (tds l))).length) ∧ e = .returned (.tuple #[zeroW, .int .i64 3])) ∨
  (twf l = true ∧ (dig (dv (tds l))).length ≤ 1024 ∧ ∃ v, e = .returned (.tuple #[v, .int .i64 0]) ∧ Num w' v (tval l))

theorem wf_of {l : List UInt8} {d : ByteArray} (e : d.data.toList = tds l) : twf l = ((d.data.toList.all isDig && decide (0 < d.size)) && !((d.data.toList.head? == some 48) && !(l == [48]))) := by
  have hl : d.data.toList.length = d.size := by simp
  unfold twf
  rw [← e, hl]

theorem Parse_any (s : ByteArray) (hs : s.size ≤ maxLen) (w : World) :
    Calls Try.prog 23 #[.string s] w fun e w' => PaOut s.data.toList e w' ∧ Below w.heap.size w w' := by
  have hs' : s.size ≤ 9223372036854775807 := by unfold maxLen at hs; omega
  have htl : s.toList = s.data.toList := ByteArray.toList_eq s
  by_cases h0 : 0 < s.size
  · have hsz : (s.extract 1 s.size).size = s.size - 1 := by simp
    have hnh := neg_head h0
    by_cases hc : s[0].toNat = 45
    · rw [decide_eq_true hc] at hnh
      obtain ⟨d, hd⟩ : ∃ d, s.extract 1 s.size = d := ⟨_, rfl⟩
      have hdl : d.size ≤ maxLen := by rw [← hd, hsz]; omega
      have hdt : d.data.toList = tds s.data.toList := by rw [← hd, Lib.extract_to_end]; unfold tds; rw [hnh]; rfl
      have htv : tval s.data.toList = -(dv d.data.toList : Int) := by unfold tval; rw [hnh, ← hdt]; rfl
      have hwf := wf_of hdt
      have hlen : d.data.toList.length = d.size := by simp
      have hne : (s.data.toList == [48]) = false := beq_eq_false_iff_ne.2 fun g => by
        have := bytes_cons h0; rw [g] at this; have := (List.cons.inj this).1; rw [← this] at hc; exact absurd hc (by decide)
      cases ha : (d.data.toList.all isDig && decide (0 < d.size)) with
      | false =>
        rw [ha, Bool.false_and] at hwf
        exact (parse_neg_digits s d hs' h0 hc hd hdl ha w).mono fun e w' ⟨h, hB⟩ => ⟨.inl ⟨hwf, h⟩, hB⟩
      | true =>
        have hd0 : 0 < d.size := by have := ha; simp only [Bool.and_eq_true, decide_eq_true_eq] at this; exact this.2
        rw [ha, Bool.true_and, hne, wf_head hd0, Bool.not_false, Bool.and_true] at hwf
        by_cases hz : d[0].toNat = 48
        · rw [decide_eq_true hz] at hwf
          exact (parse_neg_zero s d hs' h0 hc hd hdl ha hd0 hz (by rw [htl]; exact hne) w).mono fun e w' ⟨h, hB⟩ => ⟨.inl ⟨hwf, h⟩, hB⟩
        · rw [decide_eq_false hz] at hwf
          have hz' : ((d[0].toNat : Int) == 48) = false := beq_eq_false_iff_ne.2 (by omega)
          by_cases hw : 5120 < (d.size : Int)
          · exact (parse_neg_wide s d hs' h0 hc hd hdl ha hd0 hz' hw w).mono fun e w' ⟨h, hB⟩ => ⟨.inr (.inl ⟨hwf, .inl (by rw [← hdt]; omega), h⟩), hB⟩
          · rcases Nat.lt_or_ge 1024 (dig (dv d.data.toList)).length with hl | hl
            · exact (parse_neg_long s d hs' h0 hc hd hdl ha hd0 hz' hw _ rfl hl w).mono fun e w' ⟨h, hB⟩ => ⟨.inr (.inl ⟨hwf, .inr (by rw [← hdt]; exact hl), h⟩), hB⟩
            · exact (parse_neg_ok s d hs' h0 hc hd hdl ha hd0 hz' hw _ rfl hl w).mono fun e w' ⟨h, hB⟩ => ⟨.inr (.inr ⟨hwf, by rw [← hdt]; exact hl, by rw [htv]; exact h⟩), hB⟩
    · rw [decide_eq_false hc] at hnh
      have hc' : ((s[0].toNat : Int) == 45) = false := beq_eq_false_iff_ne.2 (by omega)
      have hdt : s.data.toList = tds s.data.toList := by unfold tds; rw [hnh]; rfl
      have htv : tval s.data.toList = (dv s.data.toList : Int) := by unfold tval; rw [hnh, ← hdt]; rfl
      have hwf := wf_of hdt
      have hlen : s.data.toList.length = s.size := by simp
      cases ha : (s.data.toList.all isDig && decide (0 < s.size)) with
      | false =>
        rw [ha, Bool.false_and] at hwf
        exact (parse_pos_digits s s h0 hc' rfl hs ha w).mono fun e w' ⟨h, hB⟩ => ⟨.inl ⟨hwf, h⟩, hB⟩
      | true =>
        rw [ha, Bool.true_and, wf_head h0] at hwf
        by_cases hz : s[0].toNat = 48
        · rw [decide_eq_true hz, Bool.true_and, Bool.not_not] at hwf
          cases hne : (s.data.toList == [48]) with
          | false =>
            rw [hne] at hwf
            exact (parse_pos_zero s s h0 rfl hs ha h0 hz (by rw [htl]; exact hne) w).mono fun e w' ⟨h, hB⟩ => ⟨.inl ⟨hwf, h⟩, hB⟩
          | true =>
            rw [hne] at hwf
            have e1 : s.data.toList = [48] := eq_of_beq hne
            have e2 : s.size = 1 := by rw [← hlen, e1]; rfl
            have e3 : dv s.data.toList = 0 := by rw [e1]; rfl
            have hl : (dig (dv s.data.toList)).length ≤ 1024 := by rw [e3, dig_zero]; exact Nat.zero_le _
            exact (parse_pos_nought s s hs' h0 rfl hs ha h0 hz (by rw [htl]; exact hne) (by omega) _ rfl hl w).mono fun e w' ⟨h, hB⟩ => ⟨.inr (.inr ⟨hwf, by rw [← hdt]; exact hl, by rw [htv]; exact h⟩), hB⟩
        · rw [decide_eq_false hz, Bool.false_and] at hwf
          have hz' : ((s[0].toNat : Int) == 48) = false := beq_eq_false_iff_ne.2 (by omega)
          by_cases hw : 5120 < (s.size : Int)
          · exact (parse_pos_wide s s h0 hc' rfl hs ha h0 hz' hw w).mono fun e w' ⟨h, hB⟩ => ⟨.inr (.inl ⟨hwf, .inl (by rw [← hdt]; omega), h⟩), hB⟩
          · rcases Nat.lt_or_ge 1024 (dig (dv s.data.toList)).length with hl | hl
            · exact (parse_pos_long s s hs' h0 hc' rfl hs ha h0 hz' hw _ rfl hl w).mono fun e w' ⟨h, hB⟩ => ⟨.inr (.inl ⟨hwf, .inr (by rw [← hdt]; exact hl), h⟩), hB⟩
            · exact (parse_pos_ok s s hs' h0 hc' rfl hs ha h0 hz' hw _ rfl hl w).mono fun e w' ⟨h, hB⟩ => ⟨.inr (.inr ⟨hwf, by rw [← hdt]; exact hl, by rw [htv]; exact h⟩), hB⟩
  · have h1 : s.size = 0 := by omega
    have e := bytes_empty h1
    have hwf : twf s.data.toList = false := by rw [e]; rfl
    exact (parse_pos_empty s s h1 rfl hs (by rw [h1]; simp) w).mono fun e w' ⟨h, hB⟩ => ⟨.inl ⟨hwf, h⟩, hB⟩
end

section
open Go.RowKit Wh

theorem dv_txt (l : List Nat) (h : Wt.Lm l) : dv (l.reverse.map dbyte) = Wt.val l := by
  induction l with
  | nil => rfl
  | cons x l ih =>
    rw [List.reverse_cons, List.map_append, List.map_cons, List.map_nil, dv_snoc, ih h.tail, dbyte_toNat h.head, Wt.val_cons]
    omega

/-- The digits of n, the first one first. -/
def dtx (n : Nat) : List UInt8 := (Wt.dig n).reverse.map dbyte

/-- A run of digits without a leading zero. -/
def Dg (l : List UInt8) : Prop := (∀ c ∈ l, isDig c = true) ∧ l ≠ [] ∧ l.head? ≠ some 48

theorem dbyte_dig {d : Nat} (h : d < 10) : isDig (dbyte d) = true := by
  simp only [isDig, dbyte_toNat h, Bool.and_eq_true, decide_eq_true_eq]; omega
theorem dbyte_ne {d : Nat} (h : d < 10) (h0 : d ≠ 0) : dbyte d ≠ 48 := fun e => by
  have := congrArg UInt8.toNat e; rw [dbyte_toNat h] at this; exact h0 (by simp at this; omega)

theorem dtx_Dg {n : Nat} (h : n ≠ 0) : Dg (dtx n) := by
  have hne : Wt.dig n ≠ [] := fun e => h ((Wt.dig_nil_iff n).1 e)
  refine ⟨fun c hc => ?_, by simpa [dtx] using hne, ?_⟩
  · obtain ⟨x, hx, rfl⟩ := List.mem_map.1 hc
    exact dbyte_dig (Wt.dig_Lm n x (List.mem_reverse.1 hx))
  · unfold dtx
    rw [List.head?_map, List.head?_reverse, List.getLast?_eq_some_getLast hne, Option.map_some]
    intro e
    exact dbyte_ne (Wt.dig_Lm n _ (List.getLast_mem hne)) (Wt.dig_last n hne) (Option.some.inj e)
theorem dtx_dv (n : Nat) : dv (dtx n) = n := by rw [dtx, dv_txt _ (Wt.dig_Lm n), Wt.val_dig]

theorem Dg.snoc {l : List UInt8} (h : Dg l) {d : Nat} (hd : d < 10) : Dg (l ++ [dbyte d]) := by
  refine ⟨fun c hc => ?_, by simp, ?_⟩
  · rcases List.mem_append.1 hc with g | g
    · exact h.1 c g
    · rw [List.mem_singleton.1 g]; exact dbyte_dig hd
  · obtain ⟨c, t, rfl⟩ := List.exists_cons_of_ne_nil h.2.1
    exact h.2.2

theorem Dg.wf {l : List UInt8} (h : Dg l) : tneg l = false ∧ tds l = l ∧ twf l = true ∧ tval l = (dv l : Int) := by
  have hn : tneg l = false := by
    obtain ⟨c, t, rfl⟩ := List.exists_cons_of_ne_nil h.2.1
    have := h.1 c (by simp)
    unfold tneg
    refine beq_eq_false_iff_ne.2 fun e => ?_
    rw [List.head?_cons] at e
    rw [Option.some.inj e] at this
    exact absurd this (by decide)
  have hd : tds l = l := by unfold tds; rw [hn]; rfl
  refine ⟨hn, hd, ?_, by unfold tval; rw [hn, hd]; rfl⟩
  unfold twf
  rw [hd, List.all_eq_true.2 h.1, decide_eq_true (List.length_pos_iff.2 h.2.1), beq_eq_false_iff_ne.2 h.2.2]
  rfl
theorem Dg.wf_neg {l : List UInt8} (h : Dg l) : tneg (45 :: l) = true ∧ tds (45 :: l) = l ∧ twf (45 :: l) = true ∧ tval (45 :: l) = -(dv l : Int) := by
  have hn : tneg (45 :: l) = true := rfl
  have hd : tds (45 :: l) = l := rfl
  refine ⟨hn, hd, ?_, by unfold tval; rw [hn, hd]; rfl⟩
  unfold twf
  rw [hd, List.all_eq_true.2 h.1, decide_eq_true (List.length_pos_iff.2 h.2.1), beq_eq_false_iff_ne.2 h.2.2]
  rfl

theorem txt_pos {z : Int} (h : 0 < z) : txt z = dtx z.natAbs := by
  unfold txt; rw [if_neg (by omega), if_neg (by omega), List.nil_append]; rfl
theorem txt_neg {z : Int} (h : z < 0) : txt z = 45 :: dtx z.natAbs := by
  unfold txt; rw [if_neg (by omega), if_pos h]; rfl
theorem txt_zero : txt 0 = [48] := rfl

theorem txt_wf (z : Int) : twf (txt z) = true ∧ tval (txt z) = z ∧ tneg (txt z) = decide (z < 0) ∧ dv (tds (txt z)) = z.natAbs := by
  rcases Int.lt_trichotomy z 0 with h | h | h
  · rw [txt_neg h]
    obtain ⟨h1, h2, h3, h4⟩ := (dtx_Dg (n := z.natAbs) (by omega)).wf_neg
    rw [h1, h2, h3, h4, dtx_dv, decide_eq_true h]
    exact ⟨rfl, by omega, rfl, rfl⟩
  · subst h; exact ⟨rfl, rfl, rfl, rfl⟩
  · rw [txt_pos h]
    obtain ⟨h1, h2, h3, h4⟩ := (dtx_Dg (n := z.natAbs) (by omega)).wf
    rw [h1, h2, h3, h4, dtx_dv, decide_eq_false (by omega)]
    exact ⟨rfl, by omega, rfl, rfl⟩

theorem txt_snoc {z : Int} (hz : z ≠ 0) {d : Nat} (hd : d < 10) : twf (txt z ++ [dbyte d]) = true ∧ tval (txt z ++ [dbyte d]) = z * 10 + (if z < 0 then -(d : Int) else (d : Int)) ∧ dv (tds (txt z ++ [dbyte d])) = 10 * z.natAbs + d := by
  have hg := (dtx_Dg (n := z.natAbs) (by omega)).snoc hd
  have hv : dv (dtx z.natAbs ++ [dbyte d]) = 10 * z.natAbs + d := by rw [dv_snoc, dtx_dv, dbyte_toNat hd]; omega
  by_cases h : z < 0
  · rw [txt_neg h, List.cons_append, if_pos h]
    obtain ⟨h1, h2, h3, h4⟩ := hg.wf_neg
    rw [h2, h3, h4, hv]
    exact ⟨rfl, by omega, rfl⟩
  · rw [txt_pos (by omega), if_neg h]
    obtain ⟨h1, h2, h3, h4⟩ := hg.wf
    rw [h2, h3, h4, hv]
    exact ⟨rfl, by omega, rfl⟩

theorem dg_back {l : List UInt8} (h : Dg l) : dtx (dv l) = l ∧ dv l ≠ 0 := by
  have hlm : Wt.Lm (l.reverse.map fun c => c.toNat - 48) := fun x hx => by
    obtain ⟨c, hc, rfl⟩ := List.mem_map.1 hx
    have := h.1 c (List.mem_reverse.1 hc)
    simp only [isDig, Bool.and_eq_true, decide_eq_true_eq] at this
    omega
  have hb : (l.reverse.map fun c => c.toNat - 48).reverse.map dbyte = l := by
    rw [← List.map_reverse, List.reverse_reverse, List.map_map]
    conv => rhs; rw [← List.map_id l]
    refine List.map_congr_left fun c hc => ?_
    have := h.1 c hc
    simp only [isDig, Bool.and_eq_true, decide_eq_true_eq] at this
    apply UInt8.toNat_inj.1
    show (dbyte (c.toNat - 48)).toNat = c.toNat
    rw [dbyte_toNat (by omega)]; omega
  have hv : dv l = Wt.val (l.reverse.map fun c => c.toNat - 48) := by
    have := dv_txt _ hlm
    rwa [hb] at this
  have hne : (l.reverse.map fun c => c.toNat - 48) ≠ [] := by simpa using h.2.1
  have hlast : ∀ g : (l.reverse.map fun c => c.toNat - 48) ≠ [], (l.reverse.map fun c => c.toNat - 48).getLast g ≠ 0 := fun g => by
    obtain ⟨c, t, rfl⟩ := List.exists_cons_of_ne_nil h.2.1
    have hc := h.1 c (by simp)
    simp only [isDig, Bool.and_eq_true, decide_eq_true_eq] at hc
    have h48 : c ≠ 48 := fun e => h.2.2 (by rw [e]; rfl)
    have h49 : c.toNat ≠ 48 := fun e => h48 (UInt8.toNat_inj.1 e)
    simp
    omega
  have hd : Wt.dig (dv l) = l.reverse.map fun c => c.toNat - 48 := by rw [hv]; exact Wt.dig_val hlm hlast
  refine ⟨by rw [dtx, hd, hb], fun e => hne ?_⟩
  rw [← hd, e, Wt.dig_zero]

/-- What is parsed is the text of what it is parsed to. -/
theorem txt_back {l : List UInt8} (h : twf l = true) : txt (tval l) = l := by
  have hw := h
  unfold twf at hw
  simp only [Bool.and_eq_true, decide_eq_true_eq, List.all_eq_true, Bool.not_eq_true', Bool.and_eq_false_iff, Bool.not_eq_false'] at hw
  obtain ⟨⟨h1, h2⟩, h3⟩ := hw
  rcases h3 with h3 | h3
  · have hg : Dg (tds l) := ⟨h1, List.length_pos_iff.1 h2, beq_eq_false_iff_ne.1 h3⟩
    obtain ⟨e1, e2⟩ := dg_back hg
    cases hn : tneg l with
    | true =>
      have ht : tval l = -(dv (tds l) : Int) := by unfold tval; rw [hn]; rfl
      have hl : l = 45 :: tds l := by
        unfold tneg at hn
        have := eq_of_beq hn
        cases l with
        | nil => cases this
        | cons c t => rw [List.head?_cons] at this; rw [Option.some.inj this]; rfl
      rw [ht, txt_neg (by omega), Int.natAbs_neg, Int.natAbs_natCast, e1]
      exact hl.symm
    | false =>
      have ht : tval l = (dv (tds l) : Int) := by unfold tval; rw [hn]; rfl
      have hl : tds l = l := by unfold tds; rw [hn]; rfl
      rw [ht, txt_pos (by omega), Int.natAbs_natCast, e1, hl]
  · have := eq_of_beq h3
    subst this
    rfl
end

section
open Go.RowKit Wh

theorem tds_len (l : List UInt8) : (tds l).length ≤ l.length := by unfold tds; split <;> simp
theorem dtx_len {n : Nat} (h : n < 65536 ^ 100) : (dtx n).length ≤ 500 := by
  unfold dtx
  rw [List.length_map, List.length_reverse]
  exact (Wt.length_dig_le _ _).2 (Nat.lt_of_lt_of_le h (by decide +kernel))
theorem txt_len {z : Int} (h : Sz 100 z) : (txt z).length ≤ 501 ∧ 0 < (txt z).length := by
  have hl := dtx_len h.lt
  rcases Int.lt_trichotomy z 0 with g | g | g
  · rw [txt_neg g]; simp; omega
  · subst g; exact ⟨by decide, by decide⟩
  · rw [txt_pos g]; exact ⟨by omega, List.length_pos_iff.2 (dtx_Dg (n := z.natAbs) (by omega)).2.1⟩

theorem Num.open1 {W : World} {v : Value} {z : Int} (h : Num W v z) : ∃ b a k c, v = .agg #[.bool b, .slice a k c] := by
  obtain ⟨s, rfl, hl⟩ := h
  obtain ⟨a, c, rfl⟩ := lim_slice hl
  exact ⟨_, _, _, _, rfl⟩

theorem Parse_known (s : ByteArray) (l : List UInt8) (z : Int) (hl : s.data.toList = l) (hn : l.length ≤ 5120) (hw : twf l = true) (hv : tval l = z) (hd : (dig (dv (tds l))).length ≤ 1024) (w : World) :
    Calls Try.prog 23 #[.string s] w fun e w' => (∃ b a k c, e = .returned (.tuple #[.agg #[.bool b, .slice a k c], .int .i64 0]) ∧ Num w' (.agg #[.bool b, .slice a k c]) z) ∧ Below w.heap.size w w' := by
  subst hl
  subst hv
  have hsz : s.data.toList.length = s.size := by simp
  refine (Parse_any s (by unfold maxLen; omega) w).mono ?_
  rintro e w' ⟨h, hB⟩
  rcases h with ⟨h, -⟩ | ⟨-, h, -⟩ | ⟨-, -, v, rfl, h⟩
  · rw [hw] at h; cases h
  · have := tds_len s.data.toList; omega
  · obtain ⟨b, a, k, c, rfl⟩ := h.open1
    exact ⟨⟨b, a, k, c, rfl, h⟩, hB⟩

theorem twf_all {l : List UInt8} (h : twf l = true) : ∀ c ∈ tds l, isDig c = true := by
  unfold twf at h
  simp only [Bool.and_eq_true, List.all_eq_true] at h
  exact h.1.1
theorem short_len {l : List UInt8} (h : twf l = true) (hn : l.length ≤ 400) : (dig (dv (tds l))).length ≤ 1024 := by
  have h1 := dv_lt _ (twf_all h)
  have h2 := tds_len l
  refine (length_dig_le _ _).2 (Nat.lt_of_lt_of_le h1 (Nat.le_trans (Nat.pow_le_pow_right (n := 10) (by omega) (show (tds l).length ≤ 400 by omega)) (by decide +kernel)))
theorem tval_abs (l : List UInt8) : (tval l).natAbs = dv (tds l) := by unfold tval; split <;> omega

theorem Parse_short (s : ByteArray) (hn : s.size ≤ 400) (w : World) :
    Calls Try.prog 23 #[.string s] w fun e w' => (twf s.data.toList = false ∧ e = .returned (.tuple #[.agg #[.bool false, .slice none 0 0], .int .i64 10]) ∨
      twf s.data.toList = true ∧ ∃ b a k c, e = .returned (.tuple #[.agg #[.bool b, .slice a k c], .int .i64 0]) ∧ Num w' (.agg #[.bool b, .slice a k c]) (tval s.data.toList)) ∧ Below w.heap.size w w' := by
  have hsz : s.data.toList.length = s.size := by simp
  refine (Parse_any s (by unfold maxLen; omega) w).mono ?_
  rintro e w' ⟨h, hB⟩
  rcases h with ⟨h, rfl⟩ | ⟨h1, h, -⟩ | ⟨h1, -, v, rfl, h⟩
  · exact ⟨.inl ⟨h, rfl⟩, hB⟩
  · have := tds_len s.data.toList
    have := short_len h1 (by omega)
    omega
  · obtain ⟨b, a, k, c, rfl⟩ := h.open1
    exact ⟨.inr ⟨h1, b, a, k, c, rfl, h⟩, hB⟩

theorem Text_known (v : Value) (z : Int) (s : ByteArray) (hs : s.data.toList = txt z) (hz : (dig z.natAbs).length ≤ 1024) (w : World) (h : Num w v z) :
    Calls Try.prog 21 #[v] w fun e w' => e = .returned (.tuple #[.string s, .int .i64 0]) ∧ Below w.heap.size w w' := by
  have e : s = ⟨(txt z).toArray⟩ := by rw [← hs]
  rw [e]
  exact Text_any v z hz w h

theorem one_byte (w : World) (x : Int) (T : TypeId) (g : Nat) (hg : g = w.heap.size) :
    (convert 48 9 (.slice (some ⟨g, 0, none⟩) 1 1)).run Try.prog (w.alloc (.cells #[.int .u8 x] T)) = .ok (.string (strOfNums [x])) (w.alloc (.cells #[.int .u8 x] T)) := by
  subst hg
  refine run_convert_bytes_arg (P := Try.prog) _ 48 5 Try.underlying48 Try.underlying5 w.heap.size 0 1 1 [x] rfl (fun i hi => ?_) 9 Try.underlying9
  rw [World.cell?_alloc_at _ _ _ _ rfl]
  obtain rfl : i = 0 := by omega
  rfl

theorem snoc_bytes (S : ByteArray) (d : Nat) : (S ++ strOfNums [((48 + d : Nat) : Int)]).data.toList = S.data.toList ++ [dbyte d] := by
  rw [ByteArray.toList_data_append]; rfl
end

end Go.Proofs.Ytodmbklednehbaa
