/- A part of the proofs about fractions. -/
import Derived.Lib.IndexLaws
import Derived.Test.YtnnnhjgmgomlpaaGreatQz1
import Derived.Test.YtnnnhjgmgomlpaaGreatQz2
import Derived.Test.YtnnnhjgmgomlpaaGreatQz3
import Derived.Test.YtnnnhjgmgomlpaaGreatQz4
import Derived.Test.YtnnnhjgmgomlpaaGreatQz5
import Derived.Test.YtnnnhjgmgomlpaaGreatQz6
import Derived.Test.YtnnnhjgmgomlpaaGreatQz7
import Derived.Test.YtnnnhjgmgomlpaaGreatQz8
import Derived.Test.YtnnnhjgmgomlpaaGreatQz9
import Derived.Test.YtnnnhjgmgomlpaaGreatQz10
import Derived.Test.YtnnnhjgmgomlpaaGreatQz11
import Derived.Test.YtnnnhjgmgomlpaaGreatQz12
import Derived.Test.YtnnnhjgmgomlpaaGreatQz13
import Derived.Test.YtnnnhjgmgomlpaaGreatQz14
import Derived.Test.YtnnnhjgmgomlpaaGreatQz15
import Derived.Test.YtnnnhjgmgomlpaaGreatQz16
import Derived.Test.YtnnnhjgmgomlpaaGreatQz17
import Derived.Test.YtnnnhjgmgomlpaaGreatQz18
import Derived.Test.YtnnnhjgmgomlpaaGreatQz19
import Derived.Test.YtnnnhjgmgomlpaaGreatQz20
import Derived.Test.YtnnnhjgmgomlpaaGreatQz21
import Derived.Test.YtnnnhjgmgomlpaaGreatQz22
import Derived.Test.YtnnnhjgmgomlpaaGreatQz23
import Derived.Test.YtnnnhjgmgomlpaaGreatQz24
import Derived.Test.YtnnnhjgmgomlpaaGreatQz25
import Derived.Test.YtnnnhjgmgomlpaaGreatQz26
import Derived.Test.YtnnnhjgmgomlpaaGreatQz27
import Derived.Test.YtnnnhjgmgomlpaaGreatQz28
import Derived.Test.YtnnnhjgmgomlpaaGreatQz29
import Derived.Test.YtnnnhjgmgomlpaaGreatQz30
import Derived.Test.YtnnnhjgmgomlpaaGreatQz31
import Derived.Test.YtnnnhjgmgomlpaaGreatRows
import Derived.Test.YtnnnhjgmgomlpaaGreatQFtexts1
namespace Go.Proofs.YtnnnhjgmgomlpaaGreat
open Go.RowKit Wh
def ftxt (q : Rat) : List UInt8 := if q.den = 1 then txt q.num else txt q.num ++ 47 :: txt (q.den : Int)
theorem bytes_drop (s : ByteArray) (i : Nat) : (s.extract i s.size).data.toList = s.data.toList.drop i := by
  have e : (s.extract i s.size).data.toList = (s.data.toList.drop i).take (s.size - i) := by simp
  have hsz : s.data.toList.length = s.size := by simp
  rw [e, List.take_of_length_le (by rw [List.length_drop, hsz]; exact Nat.le_refl _)]
theorem isDig_ne {c : UInt8} (h : isDig c = true) : c ≠ 47 := by rintro rfl; revert h; decide
theorem twf_no47 {l : List UInt8} (h : twf l = true) : (47 : UInt8) ∉ l := by
  have h1 := twf_all h
  intro hm
  cases hn : tneg l with
  | false =>
    have e : tds l = l := by unfold tds; rw [hn]; rfl
    rw [e] at h1
    exact isDig_ne (h1 47 hm) rfl
  | true =>
    cases l with
    | nil => cases hm
    | cons c t =>
      have e : tds (c :: t) = t := by unfold tds; rw [hn]; rfl
      rw [e] at h1
      unfold tneg at hn
      simp only [List.head?_cons, beq_iff_eq, Option.some.injEq] at hn
      subst hn
      rcases List.mem_cons.1 hm with h2 | h2
      · exact absurd h2 (by decide)
      · exact isDig_ne (h1 47 h2) rfl
theorem indexByte_none_of {l : List UInt8} {c : UInt8} (h : c ∉ l) : Lib.indexByte l c = -1 := by
  induction l with
  | nil => rfl
  | cons b l ih =>
    have h1 : (b == c) = false := by rw [beq_eq_false_iff_ne]; rintro rfl; exact h List.mem_cons_self
    have h2 := ih (fun hm => h (List.mem_cons_of_mem _ hm))
    unfold Lib.indexByte
    rw [h1, h2]
    rfl
theorem indexByte_app {x y : List UInt8} {c : UInt8} (h : c ∉ x) : Lib.indexByte (x ++ c :: y) c = (x.length : Int) := by
  induction x with
  | nil => simp [Lib.indexByte]
  | cons b l ih =>
    have h1 : (b == c) = false := by rw [beq_eq_false_iff_ne]; rintro rfl; exact h List.mem_cons_self
    have h2 := ih (fun hm => h (List.mem_cons_of_mem _ hm))
    have h3 : ((l.length : Int) == -1) = false := by rw [beq_eq_false_iff_ne]; omega
    rw [List.cons_append]
    unfold Lib.indexByte
    rw [h1, h2, h3]
    simp
theorem hasPrefix_neg (l : List UInt8) : Lib.hasPrefix l [45] = tneg l := by
  cases l with
  | nil => rfl
  | cons c t =>
    have e : (some c == some 45) = ((45 : UInt8) == c) := by
      rw [Bool.eq_iff_iff, beq_iff_eq, beq_iff_eq, Option.some.injEq]
      exact eq_comm
    unfold tneg Lib.hasPrefix
    rw [List.head?_cons, e, List.isPrefixOf_cons_cons, List.isPrefixOf_nil_left, Bool.and_true]
theorem short_256 {l : List UInt8} (h : twf l = true) (hn : l.length ≤ 400) : Sz 256 (tval l) := by
  unfold Sz
  rw [tval_abs]
  have h1 := dv_lt _ (twf_all h)
  have h2 := tds_len l
  refine (length_dig_le _ _).2 (Nat.lt_of_lt_of_le h1 (Nat.le_trans (Nat.pow_le_pow_right (n := 10) (by omega) (show (tds l).length ≤ 400 by omega)) (by decide +kernel)))
theorem Parse_bad_l (s : ByteArray) (hn : s.size ≤ 400) (h : twf s.data.toList = false) (w : World) :
    Calls Tryz.prog 73 #[.string s] w fun e w' => e = .returned (.tuple #[.agg #[.bool false, .slice none 0 0], .int .i64 10]) ∧ Below w.heap.size w w' := by
  refine (Parse_short s hn w).mono ?_
  rintro e w' ⟨h1, hB⟩
  rcases h1 with ⟨-, h1⟩ | ⟨h1, -⟩
  · exact ⟨h1, hB⟩
  · rw [h] at h1; cases h1
theorem Parse_ok_l (s : ByteArray) (hn : s.size ≤ 400) (h : twf s.data.toList = true) (w : World) :
    Calls Tryz.prog 73 #[.string s] w fun e w' => (∃ v, e = .returned (.tuple #[v, .int .i64 0]) ∧ Num w' v (tval s.data.toList)) ∧ Below w.heap.size w w' := by
  refine (Parse_short s hn w).mono ?_
  rintro e w' ⟨h1, hB⟩
  rcases h1 with ⟨h1, -⟩ | ⟨-, b, a, k, c, h1, h2⟩
  · rw [h] at h1; cases h1
  · exact ⟨⟨_, h1, h2⟩, hB⟩
theorem pden_no (s : ByteArray) (hn : s.size ≤ 400) (h : tneg s.data.toList = true ∨ twf s.data.toList = false ∨ tval s.data.toList = 0 ∨ tval s.data.toList = 1) (W : World) :
    Calls Tryz.prog 75 #[.string s] W fun e w' => e = .returned (.tuple #[.agg #[.bool false, .slice none 0 0], .int .i64 10]) ∧ Below W.heap.size W w' := by
  cases g : tneg s.data.toList with
  | true => exact pden_neg s W ((hasPrefix_neg _).trans g)
  | false =>
    have g' := (hasPrefix_neg _).trans g
    cases k : twf s.data.toList with
    | false => exact pden_bad s W g' (fun V _ => Parse_bad_l s hn k V)
    | true =>
      rcases h with h | h | h | h
      · rw [g] at h; cases h
      · rw [k] at h; cases h
      · exact pden_zero s W g' _ h (fun V _ => Parse_ok_l s hn k V)
      · exact pden_one s W g' _ h (fun V _ => Parse_ok_l s hn k V)
theorem pden_some (s : ByteArray) (hn : s.size ≤ 400) (W : World) :
    Calls Tryz.prog 75 #[.string s] W fun e w' => (∃ b a k c n, e = .returned (.tuple #[.agg #[.bool b, .slice a k c], .int .i64 n])) ∧ Below W.heap.size W w' := by
  by_cases h : tneg s.data.toList = true ∨ twf s.data.toList = false ∨ tval s.data.toList = 0 ∨ tval s.data.toList = 1
  · exact (pden_no s hn h W).mono fun _ _ ⟨he, hb⟩ => ⟨⟨_, _, _, _, _, he⟩, hb⟩
  · simp only [not_or, Bool.not_eq_true, Bool.not_eq_false] at h
    refine (pden_ok s W ((hasPrefix_neg _).trans h.1) _ h.2.2 (fun V _ => Parse_ok_l s hn h.2.1 V)).mono ?_
    rintro e w' ⟨⟨v, rfl, h1⟩, hb⟩
    obtain ⟨b, a, k, c, rfl⟩ := h1.open1
    exact ⟨⟨_, _, _, _, _, rfl⟩, hb⟩
theorem fvld_num {n d : Int} (hv : fvld (decide (n < 0)) (dig n.natAbs) (decide (d < 0)) (dig d.natAbs) = true) : ∃ q : Rat, q.num = n ∧ (q.den : Int) = d ∧ Fz 256 256 q := by
  unfold fvld at hv
  simp only [Bool.and_eq_true, decide_eq_true_eq, Bool.not_eq_true', beq_iff_eq, val_dig, decide_eq_false_iff_not] at hv
  obtain ⟨⟨⟨⟨⟨⟨v1, v2⟩, l1⟩, l2⟩, l3⟩, h0⟩, hg⟩ := hv
  have hd1 : d ≠ 0 := fun e => l3 (by rw [e]; exact dig_zero)
  obtain ⟨g1, g2⟩ := Fq.num_den_of (n := n) (d := d) (by omega) hg
  exact ⟨Rat.divInt n d, g1, g2, ⟨by unfold Sz; rw [g1]; exact l1, by unfold Sz; rw [g2]; exact l2⟩⟩
theorem fvld_one {z : Int} (s1 : Sz 256 z) : fvld (decide (z < 0)) (dig z.natAbs) (decide ((1 : Int) < 0)) (dig (1 : Int).natAbs) = true := by
  have h := fvld_fra (q := (z : Rat)) ((Fz.int s1).mono (by decide) (by decide))
  rw [Rat.num_intCast, Rat.den_intCast] at h
  exact h
theorem fvld_frac {q : Rat} (h : Fz 256 256 q) : fvld (decide (q.num < 0)) (dig q.num.natAbs) (decide ((q.den : Int) < 0)) (dig (q.den : Int).natAbs) = true := by
  rw [decide_eq_false (show ¬ (q.den : Int) < 0 by omega), Int.natAbs_natCast]
  exact fvld_fra h
def PaF (s : ByteArray) (e : Ending) (w' : World) : Prop := e = .returned (.tuple #[zeroF, .int .i64 21]) ∨
  ∃ q b a k c b' a' k' c', e = .returned (.tuple #[.agg #[.bool b, .slice a k c, .bool b', .slice a' k' c'], .int .i64 0]) ∧ Fra w' (.agg #[.bool b, .slice a k c, .bool b', .slice a' k' c']) q ∧ Fz 256 256 q ∧ s.data.toList = ftxt q
theorem frParse_any (s : ByteArray) (hs : s.size ≤ 400) (w : World) :
    Calls Tryz.prog 19 #[.string s] w fun e w' => PaF s e w' ∧ Below w.heap.size w w' := by
  have hsz : s.data.toList.length = s.size := by simp
  have hmx : s.size ≤ maxLen := by unfold maxLen; omega
  by_cases h0 : Lib.indexByte s.data.toList 47 = -1
  · have hc := fun W (_ : Below w.heap.size w W) => Cut_of s ⟨#[47]⟩ s ⟨#[]⟩ false W (fun W' => slCut_no s 47 h0 W')
    cases ht : twf s.data.toList with
    | false => exact (frParse_onebad s s ⟨#[]⟩ w hc (fun W _ => Parse_bad_l s hs ht W)).mono fun _ _ ⟨e, b⟩ => ⟨.inl e, b⟩
    | true =>
      have s1 := short_256 ht (by omega)
      refine (frParse_oneok s s ⟨#[]⟩ _ s1 (fvld_one s1) w hc (fun W _ => Parse_ok_l s hs ht W)).mono ?_
      rintro e w' ⟨⟨b1, a1, k1, c1, b3, a3, k3, c3, rfl, gn, gd⟩, hb⟩
      refine ⟨.inr ⟨(tval s.data.toList : Rat), _, _, _, _, _, _, _, _, rfl, fra_of (by rw [Rat.num_intCast]; exact gn) (by rw [Rat.den_intCast]; exact gd), (Fz.int s1).mono (by decide) (by decide), ?_⟩, hb⟩
      unfold ftxt
      rw [if_pos (Rat.den_intCast _), Rat.num_intCast, txt_back ht]
  · obtain ⟨i, hi⟩ : ∃ i : Nat, Lib.indexByte s.data.toList 47 = i := ⟨(Lib.indexByte s.data.toList 47).toNat, by have := Lib.indexByte_ge s.data.toList 47; omega⟩
    obtain ⟨g1, -⟩ := Lib.indexByte_some hi
    obtain ⟨hl, hg⟩ := List.getElem?_eq_some_iff.1 g1
    have hlt : i < s.size := by omega
    have hc := fun W (_ : Below w.heap.size w W) => Cut_of s ⟨#[47]⟩ _ _ true W (fun W' => slCut_at s 47 i hi hlt hmx W')
    have ex : (s.extract 0 i).data.toList = s.data.toList.take i := by simp
    have ey : (s.extract (i + 1) s.size).data.toList = s.data.toList.drop (i + 1) := bytes_drop s _
    have hxs : (s.extract 0 i).size ≤ 400 := by simp; omega
    have hys : (s.extract (i + 1) s.size).size ≤ 400 := by simp; omega
    have hsp : s.data.toList = (s.extract 0 i).data.toList ++ 47 :: (s.extract (i + 1) s.size).data.toList := by
      rw [ex, ey]
      exact (List.take_append_drop i _).symm.trans (by rw [List.drop_eq_getElem_cons hl, hg])
    clear ex ey g1 hg hi h0
    generalize s.extract 0 i = x at *
    generalize s.extract (i + 1) s.size = y at *
    have hxl : x.data.toList.length = x.size := by simp
    have hyl : y.data.toList.length = y.size := by simp
    cases hx : twf x.data.toList with
    | false => exact (frParse_nbad s x y w hc (fun W _ => Parse_bad_l x hxs hx W) (fun W _ => pden_some y hys W)).mono fun _ _ ⟨e, b⟩ => ⟨.inl e, b⟩
    | true =>
      have s1 := short_256 hx (by omega)
      by_cases hy : tneg y.data.toList = true ∨ twf y.data.toList = false ∨ tval y.data.toList = 0 ∨ tval y.data.toList = 1
      · exact (frParse_dbad s x y _ w hc (fun W _ => Parse_ok_l x hxs hx W) (fun W _ => pden_no y hys hy W)).mono fun _ _ ⟨e, b⟩ => ⟨.inl e, b⟩
      · simp only [not_or, Bool.not_eq_true, Bool.not_eq_false] at hy
        obtain ⟨y1, y2, y3⟩ := hy
        have s2 := short_256 y2 (by omega)
        have hd := fun W (_ : Below w.heap.size w W) => pden_ok y W ((hasPrefix_neg _).trans y1) _ y3 (fun V _ => Parse_ok_l y hys y2 V)
        cases hv : fvld (decide (tval x.data.toList < 0)) (dig (tval x.data.toList).natAbs) (decide (tval y.data.toList < 0)) (dig (tval y.data.toList).natAbs) with
        | false => exact (frParse_wrong s x y _ _ s1 s2 hv w hc (fun W _ => Parse_ok_l x hxs hx W) hd).mono fun _ _ ⟨e, b⟩ => ⟨.inl e, b⟩
        | true =>
          obtain ⟨q, q1, q2, fq⟩ := fvld_num hv
          refine (frParse_ok s x y _ _ s1 s2 hv w hc (fun W _ => Parse_ok_l x hxs hx W) hd).mono ?_
          rintro e w' ⟨⟨b1, a1, k1, c1, b3, a3, k3, c3, rfl, gn, gd⟩, hb⟩
          refine ⟨.inr ⟨q, _, _, _, _, _, _, _, _, rfl, fra_of (by rw [q1]; exact gn) (by rw [q2]; exact gd), fq, ?_⟩, hb⟩
          unfold ftxt
          rw [if_neg (fun e => y3.2 (by rw [← q2, e]; rfl)), q1, q2, txt_back hx, txt_back y2]
          exact hsp
theorem Parse_txt (s : ByteArray) (z : Int) (hz : Sz 100 z) (hs : s.data.toList = txt z) (W : World) :
    Calls Tryz.prog 73 #[.string s] W fun e w' => (∃ v, e = .returned (.tuple #[v, .int .i64 0]) ∧ Num w' v z) ∧ Below W.heap.size W w' := by
  have h1 := (txt_len hz).1
  obtain ⟨h2, h3, -, h4⟩ := txt_wf z
  exact (Parse_known s _ z hs (by omega) h2 h3 (by rw [h4]; exact hz.len (by decide)) W).mono fun _ _ ⟨⟨_, _, _, _, he, hn⟩, hb⟩ => ⟨⟨_, he, hn⟩, hb⟩
theorem frParse_text (q : Rat) (hq : Fz 40 40 q) (s : ByteArray) (hs : s.data.toList = ftxt q) (w : World) :
    Calls Tryz.prog 19 #[.string s] w fun e w' => (∃ v, e = .returned (.tuple #[v, .int .i64 0]) ∧ Fra w' v q) ∧ Below w.heap.size w w' := by
  have hsz : s.data.toList.length = s.size := by simp
  have s1 : Sz 100 q.num := hq.1.mono (by decide)
  have s2 : Sz 100 (q.den : Int) := hq.2.mono (by decide)
  have n1 := txt_len s1
  have n2 := txt_len s2
  have t1 := txt_wf q.num
  have t2 := txt_wf (q.den : Int)
  unfold ftxt at hs
  by_cases hd : q.den = 1
  · rw [if_pos hd] at hs
    have h0 : Lib.indexByte s.data.toList 47 = -1 := by rw [hs]; exact indexByte_none_of (twf_no47 t1.1)
    have hc := fun W (_ : Below w.heap.size w W) => Cut_of s ⟨#[47]⟩ s ⟨#[]⟩ false W (fun W' => slCut_no s 47 h0 W')
    refine (frParse_oneok s s ⟨#[]⟩ _ (hq.1.mono (by decide)) (fvld_one (hq.1.mono (by decide))) w hc (fun W _ => Parse_txt s _ s1 hs W)).mono ?_
    rintro e w' ⟨⟨b1, a1, k1, c1, b3, a3, k3, c3, rfl, gn, gd⟩, hb⟩
    exact ⟨⟨_, rfl, fra_of gn (by rw [hd]; exact gd)⟩, hb⟩
  · rw [if_neg hd] at hs
    have hi : Lib.indexByte s.data.toList 47 = ((txt q.num).length : Int) := by rw [hs]; exact indexByte_app (twf_no47 t1.1)
    have hln : s.size = (txt q.num).length + ((txt (q.den : Int)).length + 1) := by rw [← hsz, hs]; simp
    have hc := fun W (_ : Below w.heap.size w W) => Cut_of s ⟨#[47]⟩ _ _ true W (fun W' => slCut_at s 47 _ hi (by omega) (by unfold maxLen; omega) W')
    have ex : (s.extract 0 (txt q.num).length).data.toList = txt q.num := by
      have e : (s.extract 0 (txt q.num).length).data.toList = s.data.toList.take (txt q.num).length := by simp
      rw [e, hs, List.take_left]
    have ey : (s.extract ((txt q.num).length + 1) s.size).data.toList = txt (q.den : Int) := by
      have e : (s.extract ((txt q.num).length + 1) s.size).data.toList = s.data.toList.drop ((txt q.num).length + 1) := bytes_drop s _
      rw [e, hs, ← List.drop_drop, List.drop_left]
      rfl
    have y1 : tneg (txt (q.den : Int)) = false := by rw [t2.2.2.1]; exact decide_eq_false (by omega)
    have hd0 := q.den_pos
    refine (frParse_ok s _ _ _ _ (hq.1.mono (by decide)) (hq.2.mono (by decide)) (fvld_frac (hq.mono (by decide) (by decide))) w hc (fun W _ => Parse_txt _ _ s1 ex W) (fun W _ => pden_ok _ W ((hasPrefix_neg _).trans (by rw [ey]; exact y1)) _ ⟨by omega, by omega⟩ (fun V _ => Parse_txt _ _ s2 ey V))).mono ?_
    rintro e w' ⟨⟨b1, a1, k1, c1, b3, a3, k3, c3, rfl, gn, gd⟩, hb⟩
    exact ⟨⟨_, rfl, fra_of gn gd⟩, hb⟩
theorem bytes_eq {s : ByteArray} {l : List UInt8} (h : s.data.toList = l) : s = ⟨l.toArray⟩ := by rw [← h]
theorem frText_lit (b : Bool) (a : Option Addr) (k c : Nat) (b' : Bool) (a' : Option Addr) (k' c' : Nat) (q : Rat) (s : ByteArray) (hs : s.data.toList = ftxt q) (hq : Fz 256 256 q) (w : World) (h : Fra w (.agg #[.bool b, .slice a k c, .bool b', .slice a' k' c']) q) :
    Calls Tryz.prog 60 #[.agg #[.bool b, .slice a k c, .bool b', .slice a' k' c']] w fun e w' => e = .returned (.tuple #[.string s, .int .i64 0]) ∧ Below w.heap.size w w' := by
  unfold ftxt at hs
  by_cases hd : q.den = 1
  · rw [if_pos hd] at hs
    rw [bytes_eq hs]
    exact frText_one b a k c b' a' k' c' q hq hd w h
  · rw [if_neg hd] at hs
    have e : s = ⟨(txt q.num).toArray⟩ ++ ⟨#[47]⟩ ++ ⟨(txt (q.den : Int)).toArray⟩ := by
      rw [bytes_eq hs]
      apply ByteArray.ext
      simp
    rw [e]
    exact frText_more b a k c b' a' k' c' q hq hd w h
end Go.Proofs.YtnnnhjgmgomlpaaGreat
