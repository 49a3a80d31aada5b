/-
'Text'.
-/
import Derived.Test.YtodmbklednehbaaRev
import Derived.Laws.IdiomStrings
import Derived.Outline
namespace Go.Proofs.Ytodmbklednehbaa
open Go.RowKit Wh

/-- The cells of bytes. -/
def bcells (l : List UInt8) : List Value := l.map fun c => Value.int .u8 (c.toNat : Int)
theorem bcells_snoc (l : List UInt8) (c : UInt8) : bcells l ++ [.int .u8 (c.toNat : Int)] = bcells (l ++ [c]) := by simp [bcells]
theorem bcells_length (l : List UInt8) : (bcells l).length = l.length := by simp [bcells]

/-- A digit's byte. -/
def dbyte (d : Nat) : UInt8 := UInt8.ofNat (48 + d)
theorem dbyte_toNat {d : Nat} (h : d < 10) : (dbyte d).toNat = 48 + d := by simp [dbyte]; omega

/-- The text of a number. -/
def txt (z : Int) : List UInt8 := if z = 0 then [48] else (if z < 0 then [45] else []) ++ (Wt.dig z.natAbs).reverse.map dbyte

set_option maxRecDepth 100000 in
set_option maxHeartbeats 1000000 in
theorem Text_bad (b : Bool) (s : Value) (l : List Nat) (w : World) (h : Lim w s l) (hv : vld b l = false) :
    Calls Try.prog 21 #[.agg #[.bool b, s]] w fun e w' => e = .returned (.tuple #[.string ⟨#[]⟩, .int .i64 2]) ∧ Below w.heap.size w w' := by
  have hw1 := fun B W (h0 : W.cell? ⟨B, 0, none⟩ = some (.bool b)) (h1 : W.cell? ⟨B, 1, none⟩ = some s) (hW : Below w.heap.size w W) => allValid_one B b s l W h0 h1 (h.below hW (Nat.le_refl _))
  rw [hv] at hw1
  have HW1 := Lib.hid hw1
  obtain ⟨aa, ca, rfl⟩ := lim_slice h
  clear hw1 h hv
  obtain ⟨ja, hja⟩ : ∃ n, n = l.length := ⟨_, rfl⟩
  rw [← hja] at HW1 ⊢
  clear hja
  have hz := ((Below.refl w.heap.size w).alloc (Nat.le_refl _) (.cells #[.bool b, .slice aa ja ca] 26)).alloc (by simp) (.cells #[.bool b, .slice aa ja ca] 26)
  have hr := (Bx.new (w.alloc (.cells #[.bool b, .slice aa ja ca] 26)) (.bool b) (.slice aa ja ca)).cells
  simp only [World.size_alloc] at hr
  have HR := Lib.hid hr
  clear hr
  go_enter Try.func21, Try.ntmps21
  go_wp2_with (go_at_call 48; refine (HW1.out _ _ HR.out.1 HR.out.2 hz).mono ?_; rintro e w2 ⟨rfl, hb2⟩; have hB2 := hz.trans (hb2.mono hz.size))
  go_ret2
  exact ⟨rfl, hB2⟩

def TextRel (B D : Nat) (pre : List UInt8) (ds : List Nat) (w1 wr : World) (v5 v6 : Value) : Prop :=
  ∃ m : Nat, m ≤ D ∧ v6 = .int .i64 ((m : Int) - 1) ∧ wr.ownsRow B 5 1 v5 (pre ++ (ds.drop m).reverse.map dbyte).length (bcells (pre ++ (ds.drop m).reverse.map dbyte)) ∧ Below B w1 wr

theorem drop_rev_step (pre : List UInt8) (ds : List Nat) (m : Nat) (h0 : 0 < m) (hm : m ≤ ds.length) : pre ++ (ds.drop m).reverse.map dbyte ++ [dbyte (ds[m - 1]?.getD 0)] = pre ++ (ds.drop (m - 1)).reverse.map dbyte := by
  have e : ds.drop (m - 1) = ds[m - 1] :: ds.drop m := by
    have := List.drop_eq_getElem_cons (l := ds) (i := m - 1) (by omega)
    rw [this, Nat.sub_add_cancel h0]
  rw [e]
  have e2 : ds[m - 1]?.getD 0 = ds[m - 1] := by rw [List.getElem?_eq_getElem (by omega)]; rfl
  rw [e2]
  simp

set_option maxRecDepth 100000 in
set_option maxHeartbeats 2000000 in
theorem Text_any (v : Value) (z : Int) (hz1024 : (dig z.natAbs).length ≤ 1024) (w : World) (h' : Num w v z) :
    Calls Try.prog 21 #[v] w fun e w' => e = .returned (.tuple #[.string ⟨(txt z).toArray⟩, .int .i64 0]) ∧ Below w.heap.size w w' := by
  obtain ⟨i0, hi, hz0, hz1, hz2⟩ := info_parts Try.infoB
  obtain ⟨s, rfl, h⟩ := h'
  have hw1 := fun B W (h0 : W.cell? ⟨B, 0, none⟩ = some (.bool (decide (z < 0)))) (h1 : W.cell? ⟨B, 1, none⟩ = some s) (hW : Below w.heap.size w W) => allValid_one B _ s _ W h0 h1 (h.below hW (Nat.le_refl _))
  rw [vld_num z hz1024] at hw1
  have HW1 := Lib.hid hw1
  have hw2 := fun W (hW : Below w.heap.size w W) => reversedDigits_any s z.natAbs (by omega) W (h.below hW (Nat.le_refl _))
  have hw2' : ∀ W, Below w.heap.size w W → Calls Try.prog 49 #[s] W fun e w' => (∃ g3 c3, e = .returned (.slice g3 (Wt.dig z.natAbs).length c3) ∧ (∀ j, j < (Wt.dig z.natAbs).length → ∃ b, g3 = some ⟨b, 0, none⟩ ∧ w'.cell? ⟨b, j, none⟩ = some (.int .u8 ((48 + (Wt.dig z.natAbs)[j]?.getD 0 : Nat) : Int)))) ∧ Below W.heap.size W w' := fun W hW =>
    (hw2 W hW).mono fun e w' ⟨⟨v, he, g3, c3, hv, _, _, hc⟩, hb⟩ => ⟨⟨g3, c3, by rw [he, hv], hc⟩, hb⟩
  have HW2 := Lib.hid hw2'
  obtain ⟨aa, ca, rfl⟩ := lim_slice h
  clear hw1 hw2 hw2' h
  have hD5 : z.natAbs ≠ 0 → (Wt.dig z.natAbs).length ≤ 5121 := fun h0 => by
    have h1 := Wt.pow_le_of_length (n := z.natAbs) (k := (Wt.dig z.natAbs).length - 1) (by have : Wt.dig z.natAbs ≠ [] := fun e => h0 ((Wt.dig_nil_iff _).1 e); have := List.length_pos_iff.2 this; omega)
    have := Wt.len_of_limbs h1 (lt_pow_length z.natAbs)
    omega
  have hja : ((dig z.natAbs).length : Int) = 0 ↔ z = 0 := by
    rw [Int.natCast_eq_zero, List.length_eq_zero_iff, dig_nil_iff]; omega
  obtain ⟨ja, hja'⟩ : ∃ n, n = (dig z.natAbs).length := ⟨_, rfl⟩
  rw [← hja'] at HW1 HW2 hja ⊢
  clear hja' hz1024
  obtain ⟨na, hna⟩ : ∃ n, n = decide (z < 0) := ⟨_, rfl⟩
  rw [← hna] at HW1 ⊢
  have hz := ((Below.refl w.heap.size w).alloc (Nat.le_refl _) (.cells #[.bool na, .slice aa ja ca] 26)).alloc (by simp) (.cells #[.bool na, .slice aa ja ca] 26)
  have x2 := (Bx.new w (.bool na) (.slice aa ja ca)).alloc (.cells #[.bool na, .slice aa ja ca] 26)
  have hr := (Bx.new (w.alloc (.cells #[.bool na, .slice aa ja ca] 26)) (.bool na) (.slice aa ja ca)).cells
  simp only [World.size_alloc] at hr
  have HR := Lib.hid hr
  clear hr
  have HNA := Lib.hid hna
  clear hna
  by_cases hzz : z = 0
  · have hj0 : ja = 0 := by have := hja.2 hzz; omega
    have HT : Hid (txt z = [48]) := Lib.hid (by rw [hzz]; rfl)
    subst hj0
    clear hja hD5 hzz HW2
    go_enter Try.func21, Try.ntmps21
    go_wp2_with (go_at_call 48; refine (HW1.out _ _ HR.out.1 HR.out.2 hz).mono ?_; rintro e w2 ⟨rfl, hb2⟩; have hB2 := hz.trans (hb2.mono hz.size); have z2 := x2.on hb2; obtain ⟨p2, p2'⟩ := z2.cells)
    go_ret2
    exact ⟨by rw [HT.out]; rfl, hB2⟩
  · have hj0 : ((ja : Int) == 0) = false := by simp only [beq_eq_false_iff_ne, ne_eq]; exact fun e => hzz (hja.1 e)
    have hD := hD5 (by omega)
    have hDpos : Wt.dig z.natAbs ≠ [] := fun e => hzz (by have := (Wt.dig_nil_iff _).1 e; omega)
    have hDpos2 := List.length_pos_iff.2 hDpos
    have hLm := Wt.dig_Lm z.natAbs
    have HT : Hid (txt z = (if z < 0 then [45] else []) ++ (Wt.dig z.natAbs).reverse.map dbyte) := Lib.hid (by unfold txt; rw [if_neg hzz])
    clear hja hD5 hzz hDpos
    generalize Wt.dig z.natAbs = ds at *
    generalize hDD : ds.length = D at *
    cases na with
    | true =>
      have hneg := of_decide_eq_true HNA.out.symm
      go_enter Try.func21, Try.ntmps21
      go_wp2_with (first
        | (go_at_call 48; refine (HW1.out _ _ HR.out.1 HR.out.2 hz).mono ?_; rintro e w2 ⟨rfl, hb2⟩; have hB2 := hz.trans (hb2.mono hz.size); have z2 := x2.on hb2; obtain ⟨p2, p2'⟩ := z2.cells)
        | (go_at_call 49; refine (HW2.out _ hB2).mono ?_; rintro e w3 ⟨⟨g3, c3, rfl, hcells⟩, hb3⟩; have HCE := Lib.hid hcells; clear hcells; have hB3 := hB2.trans (hb3.mono hB2.size); have z3 := z2.on hb3; obtain ⟨q2, q2'⟩ := z3.cells)
        | (at_make; refine wpList_make_own _ rfl _ _ 48 rfl w3.heap.size 5 i0 (.int .u8 0) 1 Try.underlying48 hi hz0 hz1 _ _ _ (D + 1) rfl rfl rfl (by rw [hz2]; omega) (by unfold maxLen; omega) (Nat.le_refl _) ?_; intro w4 hown hgrow; have hb4 := (Below.refl w3.heap.size w3).grown hgrow (Nat.le_refl _) (fun k e => by cases e); have z4 := z3.on hb4; obtain ⟨r2, r2'⟩ := z4.cells)
        | (at_builtin; refine wpList_append_own _ rfl _ _ 48 rfl w3.heap.size 5 i0 (.int .u8 0) 1 1 Try.underlying48 hi hz0 hz1 hz2 rfl (by decide) _ _ _ rfl (hown.alloc _) ⟨w4.heap.size, 0, none⟩ 1 1 [.int .u8 45] rfl rfl (cell_one_new _ _ _) (by simp [Value.oneCell']) (by unfold maxLen; omega) (by omega) (by simp; have := hb4.size; omega) ?_; intro v' w5 hown5 hgrow5 _; have hb5 := (hb4.alloc hb4.size (.cells #[.int .u8 45] 5)).grown hgrow5 (by simp; have := hb4.size; omega) (fun k e => (hown.lt k e).1)))
      go_loopw [5, 6] (fun v5 v6 wr => TextRel w3.heap.size D [45] ds w3 wr v5 v6) (fun _ v6 _ => (intOf v6 + 1).toNat)
      case atStart => exact ⟨D, Nat.le_refl _, rfl, by simpa [bcells, ← hDD] using hown5, hb5⟩
      case round =>
        obtain ⟨m, hm, rfl, hrow, hbw⟩ := hrel
        rcases Nat.eq_zero_or_pos m with hm0 | hm0
        · subst hm0
          have eT : txt z = [45] ++ (ds.drop 0).reverse.map dbyte := by rw [HT.out, if_pos hneg]; simp
          rw [← eT] at hrow
          have hlen : 0 < (txt z).length := by rw [eT]; simp <;> omega
          obtain ⟨L, hL⟩ : ∃ L, (txt z).length = L + 1 := ⟨(txt z).length - 1, by omega⟩
          rw [hL] at hrow
          obtain ⟨g', cap', rfl⟩ := ownsRow_succ hrow
          have hcv := run_convert_bytes_back (P := Try.prog) wr 48 9 5 ⟨g', 0, none⟩ cap' (txt z) Try.underlying48 Try.underlying5 Try.underlying9
            (fun j hj => hrow.cells (g := g') rfl j _ (by simp [bcells, hj]))
          rw [hL] at hcv
          have hB9 := hB3.trans (hbw.mono hB3.size)
          clear hlen eT hL hrow
          go_wp2
          go_ret2
          exact ⟨rfl, hB9⟩
        · obtain ⟨b, rfl, hcell⟩ := HCE.out (m - 1) (by omega)
          have hcell2 := (hbw.cell (p := ⟨b, m - 1, none⟩) (lt_of_cell hcell)).trans hcell
          have hds := hLm.getD (m - 1)
          have hstep := drop_rev_step [45] ds m hm0 (by omega)
          have hbt := dbyte_toNat hds
          have hlenB : ([45] ++ (ds.drop m).reverse.map dbyte).length ≤ 5125 := by simp; omega
          generalize ds[m - 1]?.getD 0 = d at *
          obtain ⟨x, hx⟩ : ∃ x : Int, x = ((48 + d : Nat) : Int) := ⟨_, rfl⟩
          rw [← hx] at hcell2
          have hx1 : 0 ≤ x ∧ x ≤ 255 := by omega
          have hbx : ((dbyte d).toNat : Int) = x := by rw [hbt, hx]
          have HS := Lib.hid hstep
          have HBX := Lib.hid hbx
          have h1 : (0 : Int) ≤ (m : Int) - 1 := by omega
          have h1' : (1 : Int) ≤ (m : Int) := by omega
          have h2 : (m : Int) - 1 < (D : Int) := by omega
          clear hcell hstep hbt hx hbx hds
          go_wp2_with (at_builtin; refine wpList_append_own _ rfl _ _ 48 rfl w3.heap.size 5 i0 (.int .u8 0) 1 1 Try.underlying48 hi hz0 hz1 hz2 rfl (by decide) _ _ _ rfl (hrow.alloc _) ⟨wr.heap.size, 0, none⟩ 1 1 [.int .u8 x] rfl rfl (cell_one_new _ _ _) (by simp [Value.oneCell']) (by unfold maxLen; omega) (by omega) (by simp; have := hbw.size; omega) ?_; intro v' w7 hrow7 hgrow7 _)
          rw [← HBX.out, bcells_snoc, HS.out] at hrow7
          have hbw7 := (hbw.alloc hbw.size (.cells #[.int .u8 x] 5)).grown hgrow7 (by simp; have := hbw.size; omega) (fun k e => (hrow.lt k e).1)
          go_roundw
          case rel => exact ⟨m - 1, by omega, by congr 1; omega, by rw [← HS.out, List.length_append]; rw [HS.out]; exact hrow7, hbw7⟩
          case measure => simp [intOf]; omega
    | false =>
      have hneg := of_decide_eq_false HNA.out.symm
      go_enter Try.func21, Try.ntmps21
      go_wp2_with (first
        | (go_at_call 48; refine (HW1.out _ _ HR.out.1 HR.out.2 hz).mono ?_; rintro e w2 ⟨rfl, hb2⟩; have hB2 := hz.trans (hb2.mono hz.size); have z2 := x2.on hb2; obtain ⟨p2, p2'⟩ := z2.cells)
        | (go_at_call 49; refine (HW2.out _ hB2).mono ?_; rintro e w3 ⟨⟨g3, c3, rfl, hcells⟩, hb3⟩; have HCE := Lib.hid hcells; clear hcells; have hB3 := hB2.trans (hb3.mono hB2.size); have z3 := z2.on hb3; obtain ⟨q2, q2'⟩ := z3.cells)
        | (at_make; refine wpList_make_own _ rfl _ _ 48 rfl w3.heap.size 5 i0 (.int .u8 0) 1 Try.underlying48 hi hz0 hz1 _ _ _ (D + 1) rfl rfl rfl (by rw [hz2]; omega) (by unfold maxLen; omega) (Nat.le_refl _) ?_; intro w4 hown hgrow; have hb4 := (Below.refl w3.heap.size w3).grown hgrow (Nat.le_refl _) (fun k e => by cases e); have z4 := z3.on hb4; obtain ⟨r2, r2'⟩ := z4.cells))
      go_loopw [5, 6] (fun v5 v6 wr => TextRel w3.heap.size D [] ds w3 wr v5 v6) (fun _ v6 _ => (intOf v6 + 1).toNat)
      case atStart => exact ⟨D, Nat.le_refl _, rfl, by simpa [bcells, ← hDD] using hown, hb4⟩
      case round =>
        obtain ⟨m, hm, rfl, hrow, hbw⟩ := hrel
        rcases Nat.eq_zero_or_pos m with hm0 | hm0
        · subst hm0
          have eT : txt z = [] ++ (ds.drop 0).reverse.map dbyte := by rw [HT.out, if_neg (Int.not_lt.2 hneg)]; simp
          rw [← eT] at hrow
          have hlen : 0 < (txt z).length := by rw [eT]; simp <;> omega
          obtain ⟨L, hL⟩ : ∃ L, (txt z).length = L + 1 := ⟨(txt z).length - 1, by omega⟩
          rw [hL] at hrow
          obtain ⟨g', cap', rfl⟩ := ownsRow_succ hrow
          have hcv := run_convert_bytes_back (P := Try.prog) wr 48 9 5 ⟨g', 0, none⟩ cap' (txt z) Try.underlying48 Try.underlying5 Try.underlying9
            (fun j hj => hrow.cells (g := g') rfl j _ (by simp [bcells, hj]))
          rw [hL] at hcv
          have hB9 := hB3.trans (hbw.mono hB3.size)
          clear hlen eT hL hrow
          go_wp2
          go_ret2
          exact ⟨rfl, hB9⟩
        · obtain ⟨b, rfl, hcell⟩ := HCE.out (m - 1) (by omega)
          have hcell2 := (hbw.cell (p := ⟨b, m - 1, none⟩) (lt_of_cell hcell)).trans hcell
          have hds := hLm.getD (m - 1)
          have hstep := drop_rev_step [] ds m hm0 (by omega)
          have hbt := dbyte_toNat hds
          have hlenB : ([] ++ (ds.drop m).reverse.map dbyte).length ≤ 5125 := by simp; omega
          generalize ds[m - 1]?.getD 0 = d at *
          obtain ⟨x, hx⟩ : ∃ x : Int, x = ((48 + d : Nat) : Int) := ⟨_, rfl⟩
          rw [← hx] at hcell2
          have hx1 : 0 ≤ x ∧ x ≤ 255 := by omega
          have hbx : ((dbyte d).toNat : Int) = x := by rw [hbt, hx]
          have HS := Lib.hid hstep
          have HBX := Lib.hid hbx
          have h1 : (0 : Int) ≤ (m : Int) - 1 := by omega
          have h1' : (1 : Int) ≤ (m : Int) := by omega
          have h2 : (m : Int) - 1 < (D : Int) := by omega
          clear hcell hstep hbt hx hbx hds
          go_wp2_with (at_builtin; refine wpList_append_own _ rfl _ _ 48 rfl w3.heap.size 5 i0 (.int .u8 0) 1 1 Try.underlying48 hi hz0 hz1 hz2 rfl (by decide) _ _ _ rfl (hrow.alloc _) ⟨wr.heap.size, 0, none⟩ 1 1 [.int .u8 x] rfl rfl (cell_one_new _ _ _) (by simp [Value.oneCell']) (by unfold maxLen; omega) (by omega) (by simp; have := hbw.size; omega) ?_; intro v' w7 hrow7 hgrow7 _)
          rw [← HBX.out, bcells_snoc, HS.out] at hrow7
          have hbw7 := (hbw.alloc hbw.size (.cells #[.int .u8 x] 5)).grown hgrow7 (by simp; have := hbw.size; omega) (fun k e => (hrow.lt k e).1)
          go_roundw
          case rel => exact ⟨m - 1, by omega, by congr 1; omega, by rw [← HS.out, List.length_append]; rw [HS.out]; exact hrow7, hbw7⟩
          case measure => simp [intOf]; omega

end Go.Proofs.Ytodmbklednehbaa
