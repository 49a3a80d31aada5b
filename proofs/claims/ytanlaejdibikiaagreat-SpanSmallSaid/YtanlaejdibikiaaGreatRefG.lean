/-
The reference's Both and Within.
-/
import Derived.Test.YtanlaejdibikiaaGreatRefB
import Derived.Test.YtanlaejdibikiaaGreatRefV
import Derived.Test.YtanlaejdibikiaaGreatWithin
import Derived.Test.YtanlaejdibikiaaGreatCombine
namespace Go.Proofs.YtanlaejdibikiaaGreat
open Go.RowKit Go.Shelf Sp

theorem allOk_set' {l : L} (h : IsSet l) : AllOk l := by
  intro s hs
  obtain ⟨i, hi, rfl⟩ := List.getElem_of_mem hs
  have := Chain.get h hi
  rw [okB_iff]; omega
theorem memB_comb' {op : Bool → Bool → Bool} (h0 : op false false = false) {a b : L} (ha : IsSet a) (hb : IsSet b) (d : Int) : memB (comb op a b) d = op (memB a d) (memB b d) := by
  rw [Bool.eq_iff_iff, memB_iff, (comb_spec op h0 ha hb).2]
theorem within_memB {a b : L} (ha : IsSet a) (_hb : IsSet b) : withinB a b = true ↔ ∀ d : Nat, d < 65536 → memB a d = true → memB b d = true := by
  rw [withinB_iff]
  constructor
  · intro h d _ hd
    exact (memB_iff b d).2 (h d ((memB_iff a d).1 hd))
  · intro h d hd
    have h1 := Chain.lo ha hd
    have h2 := Chain.hi ha hd
    obtain ⟨D, rfl⟩ : ∃ D : Nat, d = D := ⟨d.toNat, by omega⟩
    exact (memB_iff b D).1 (h D (by omega) ((memB_iff a D).2 hd))

set_option maxHeartbeats 4000000 in
theorem RBoth_no (c : Int) (va vb : Value) (a b : L) (h : ¬ (IsSet a ∧ IsSet b)) (w : World) (hla : Spn w va a) (hlb : Spn w vb b) :
    Calls Tryz.prog 17 #[.int .i64 c, va, vb] w (Says (.tuple #[.slice none 0 0, .int .i64 2]) w) := by
  have hvA := RValid_any va a w hla
  have hvB := fun W (hW : Below w.heap.size w W) => RValid_any vb b W (hlb.below hW (Nat.le_refl _))
  by_cases ha : IsSet a
  · have hb : ¬ IsSet b := fun e => h ⟨ha, e⟩
    rw [(vldB_iff a).2 ha] at hvA
    rw [(vldB_not b).2 hb] at hvB
    have HVA := Lib.hid hvA
    have HVB := Lib.hid hvB
    clear h hla hlb ha hb hvA hvB
    go_enter Tryz.func17, Tryz.ntmps17
    go_wp2_with fail
    refine HVA.out.mono ?_
    rintro e w1 ⟨rfl, hb1⟩
    have HB := Lib.hid hb1
    clear hb1
    go_wp2_with fail
    refine (HVB.out _ HB.out).mono ?_
    rintro e w2 ⟨rfl, hb2⟩
    replace HB := Lib.hid (HB.out.trans (hb2.mono HB.out.size))
    clear hb2
    go_wp2
    go_ret2
    exact ⟨rfl, HB.out⟩
  · rw [(vldB_not a).2 ha] at hvA
    have HVA := Lib.hid hvA
    clear h hla hlb ha hvA hvB
    go_enter Tryz.func17, Tryz.ntmps17
    go_wp2_with fail
    refine HVA.out.mono ?_
    rintro e w1 ⟨rfl, hb1⟩
    have HB := Lib.hid hb1
    clear hb1
    go_wp2
    go_ret2
    exact ⟨rfl, HB.out⟩

set_option maxHeartbeats 4000000 in
theorem RWithin_no (va vb : Value) (a b : L) (h : ¬ (IsSet a ∧ IsSet b)) (w : World) (hla : Spn w va a) (hlb : Spn w vb b) :
    Calls Tryz.prog 20 #[va, vb] w (Says (.bool false) w) := by
  have hvA := RValid_any va a w hla
  have hvB := fun W (hW : Below w.heap.size w W) => RValid_any vb b W (hlb.below hW (Nat.le_refl _))
  by_cases ha : IsSet a
  · have hb : ¬ IsSet b := fun e => h ⟨ha, e⟩
    rw [(vldB_iff a).2 ha] at hvA
    rw [(vldB_not b).2 hb] at hvB
    have HVA := Lib.hid hvA
    have HVB := Lib.hid hvB
    clear h hla hlb ha hb hvA hvB
    go_enter Tryz.func20, Tryz.ntmps20
    go_wp2_with fail
    refine HVA.out.mono ?_
    rintro e w1 ⟨rfl, hb1⟩
    have HB := Lib.hid hb1
    clear hb1
    go_wp2_with fail
    refine (HVB.out _ HB.out).mono ?_
    rintro e w2 ⟨rfl, hb2⟩
    replace HB := Lib.hid (HB.out.trans (hb2.mono HB.out.size))
    clear hb2
    go_wp2
    go_ret
    exact ⟨rfl, HB.out⟩
  · rw [(vldB_not a).2 ha] at hvA
    have HVA := Lib.hid hvA
    clear h hla hlb ha hvA hvB
    go_enter Tryz.func20, Tryz.ntmps20
    go_wp2_with fail
    refine HVA.out.mono ?_
    rintro e w1 ⟨rfl, hb1⟩
    have HB := Lib.hid hb1
    clear hb1
    go_wp2
    go_ret
    exact ⟨rfl, HB.out⟩

set_option maxRecDepth 100000 in
set_option maxHeartbeats 8000000 in
theorem RBoth_Union (va vb : Value) (a b : L) (ha : IsSet a) (hb : IsSet b) (w : World) (hla : Spn w va a) (hlb : Spn w vb b) :
    Calls Tryz.prog 17 #[.int .i64 0, va, vb] w (Gives (comb opU a b) w) := by
  have hvA := RValid_any va a w hla
  have hvB := fun W (hW : Below w.heap.size w W) => RValid_any vb b W (hlb.below hW (Nat.le_refl _))
  rw [(vldB_iff a).2 ha] at hvA
  rw [(vldB_iff b).2 hb] at hvB
  have HVA := Lib.hid hvA
  have HVB := Lib.hid hvB
  have HMA := Lib.hid (fun W (hW : Below w.heap.size w W) => Marks_ok va a (allOk_set' ha) W (hla.below hW (Nat.le_refl _)))
  have HMB := Lib.hid (fun W (hW : Below w.heap.size w W) => Marks_ok vb b (allOk_set' hb) W (hlb.below hW (Nat.le_refl _)))
  have HQ := Lib.hid (fun (g : Nat) (W : World) (hR : W.rowIs g 4 65536 (fun j => .bool (opU (memB a j) (memB b j)))) => Set_ok g (fun d => opU (memB a d) (memB b d)) (comb opU a b) (comb_spec opU rfl ha hb).1 (fun d _ _ => (memB_comb' (op := opU) rfl ha hb d).symm) W hR)
  clear hla hlb ha hb hvA hvB
  go_enter Tryz.func17, Tryz.ntmps17
  go_wp2_with fail
  refine HVA.out.mono ?_
  rintro e w1 ⟨rfl, hb1⟩
  have HB := Lib.hid hb1
  clear hb1
  go_wp2_with fail
  refine (HVB.out _ HB.out).mono ?_
  rintro e w2 ⟨rfl, hb2⟩
  replace HB := Lib.hid (HB.out.trans (hb2.mono HB.out.size))
  clear hb2
  go_wp2_with fail
  refine (HMA.out _ HB.out).mono ?_
  rintro e w3 ⟨⟨g, hg, rfl, hR⟩, hb3⟩
  have HG := Lib.hid (Nat.le_trans HB.out.size hg)
  replace HB := Lib.hid (HB.out.trans (hb3.mono HB.out.size))
  have HR := Lib.hid hR
  clear hg hR hb3
  go_wp2_with fail
  refine (HMB.out _ HB.out).mono ?_
  rintro e w4 ⟨⟨g2, hg2, rfl, hR2⟩, hb4⟩
  have hne : ¬ g = g2 := by have := HR.out.lt; omega
  have HR4 : Hid (w4.rowIs g 4 65536 (fun j => .bool (memB a j))) := Lib.hid (HR.out.of_block (hb4.block g HR.out.lt))
  replace HB := Lib.hid (HB.out.trans (hb4.mono HB.out.size))
  have HR2 := Lib.hid hR2
  clear hg2 hR2 hb4 HR
  go_wp2_with fail
  go_loopw [10] (fun i wr => ∃ d : Nat, d ≤ 65536 ∧ i = .int .i64 d ∧ Hid (wr.rowIs g 4 65536 (fun j => .bool (if j < d then opU (memB a j) (memB b j) else memB a j))) ∧ Hid (wr.rowIs g2 4 65536 (fun j => .bool (memB b j))) ∧ Below w.heap.size w wr) (fun i _ => 65536 - (intOf i).toNat)
  case atStart => exact ⟨0, by omega, rfl, HR4, HR2, HB.out⟩
  case round =>
    clear HR4 HR2 HB
    obtain ⟨d, hd, rfl, HX, HY, hb⟩ := hrel
    by_cases h1 : d < 65536
    · have h1' : (d : Int) < 65536 := by omega
      have c1 := HX.out.cell (i := d) h1
      rw [if_neg (Nat.lt_irrefl d)] at c1
      have c2 := HY.out.cell (i := d) h1
      have f1 := HX.out.frozen d
      obtain ⟨r, hr⟩ : ∃ r, opU (memB a d) (memB b d) = r := ⟨_, rfl⟩
      have HN : Hid ((_ : World).rowIs g 4 65536 (fun j => .bool (if j < d + 1 then opU (memB a j) (memB b j) else memB a j))) := Lib.hid ((HX.out.set d (.bool r)).congr fun j _ => by
        by_cases e : j = d
        · subst e; rw [if_pos rfl, if_pos (by omega), hr]
        · rw [if_neg e]; congr 1; by_cases hj : j < d
          · rw [if_pos hj, if_pos (by omega)]
          · rw [if_neg hj, if_neg (by omega)])
      have HY2 := Lib.hid (HY.out.setOther (a := ⟨g, d, none⟩) (fun e => hne e.symm) (.bool r))
      have HB2 := Lib.hid (hb.setCell (p := ⟨g, d, none⟩) HG.out (.bool r))
      clear hb HX HY
      rcases Bool.eq_false_or_eq_true (memB a d) with hma | hma <;> rcases Bool.eq_false_or_eq_true (memB b d) with hmb | hmb <;> cases r <;>
        (rw [hma] at c1 hr; rw [hmb] at c2 hr
         first
         | exact absurd hr (by decide)
         | (clear hma hmb hr; go_wp2; go_roundw
            case rel => exact ⟨d + 1, by omega, by go_num, HN, HY2, HB2.out⟩
            case measure => simp [intOf]; omega))
    · obtain rfl : d = 65536 := by omega
      have HZ := Lib.hid (show wr.rowIs g 4 65536 (fun j => .bool (opU (memB a j) (memB b j))) from HX.out.congr fun j hj => by rw [if_pos hj])
      have HB := Lib.hid hb
      clear hb HX HY
      go_wp2_with fail
      refine (HQ.out g _ HZ.out).mono ?_
      rintro e w5 ⟨⟨v1, rfl, ho⟩, hb5⟩
      have HO := Lib.hid (own_mono ho HB.out.size)
      have HE := Lib.hid (HB.out.trans (hb5.mono HB.out.size))
      clear ho hb5
      go_wp2
      go_ret2
      exact ⟨⟨_, rfl, HO.out⟩, HE.out⟩

set_option maxRecDepth 100000 in
set_option maxHeartbeats 8000000 in
theorem RBoth_Meet (va vb : Value) (a b : L) (ha : IsSet a) (hb : IsSet b) (w : World) (hla : Spn w va a) (hlb : Spn w vb b) :
    Calls Tryz.prog 17 #[.int .i64 1, va, vb] w (Gives (comb opM a b) w) := by
  have hvA := RValid_any va a w hla
  have hvB := fun W (hW : Below w.heap.size w W) => RValid_any vb b W (hlb.below hW (Nat.le_refl _))
  rw [(vldB_iff a).2 ha] at hvA
  rw [(vldB_iff b).2 hb] at hvB
  have HVA := Lib.hid hvA
  have HVB := Lib.hid hvB
  have HMA := Lib.hid (fun W (hW : Below w.heap.size w W) => Marks_ok va a (allOk_set' ha) W (hla.below hW (Nat.le_refl _)))
  have HMB := Lib.hid (fun W (hW : Below w.heap.size w W) => Marks_ok vb b (allOk_set' hb) W (hlb.below hW (Nat.le_refl _)))
  have HQ := Lib.hid (fun (g : Nat) (W : World) (hR : W.rowIs g 4 65536 (fun j => .bool (opM (memB a j) (memB b j)))) => Set_ok g (fun d => opM (memB a d) (memB b d)) (comb opM a b) (comb_spec opM rfl ha hb).1 (fun d _ _ => (memB_comb' (op := opM) rfl ha hb d).symm) W hR)
  clear hla hlb ha hb hvA hvB
  go_enter Tryz.func17, Tryz.ntmps17
  go_wp2_with fail
  refine HVA.out.mono ?_
  rintro e w1 ⟨rfl, hb1⟩
  have HB := Lib.hid hb1
  clear hb1
  go_wp2_with fail
  refine (HVB.out _ HB.out).mono ?_
  rintro e w2 ⟨rfl, hb2⟩
  replace HB := Lib.hid (HB.out.trans (hb2.mono HB.out.size))
  clear hb2
  go_wp2_with fail
  refine (HMA.out _ HB.out).mono ?_
  rintro e w3 ⟨⟨g, hg, rfl, hR⟩, hb3⟩
  have HG := Lib.hid (Nat.le_trans HB.out.size hg)
  replace HB := Lib.hid (HB.out.trans (hb3.mono HB.out.size))
  have HR := Lib.hid hR
  clear hg hR hb3
  go_wp2_with fail
  refine (HMB.out _ HB.out).mono ?_
  rintro e w4 ⟨⟨g2, hg2, rfl, hR2⟩, hb4⟩
  have hne : ¬ g = g2 := by have := HR.out.lt; omega
  have HR4 : Hid (w4.rowIs g 4 65536 (fun j => .bool (memB a j))) := Lib.hid (HR.out.of_block (hb4.block g HR.out.lt))
  replace HB := Lib.hid (HB.out.trans (hb4.mono HB.out.size))
  have HR2 := Lib.hid hR2
  clear hg2 hR2 hb4 HR
  go_wp2_with fail
  go_loopw [10] (fun i wr => ∃ d : Nat, d ≤ 65536 ∧ i = .int .i64 d ∧ Hid (wr.rowIs g 4 65536 (fun j => .bool (if j < d then opM (memB a j) (memB b j) else memB a j))) ∧ Hid (wr.rowIs g2 4 65536 (fun j => .bool (memB b j))) ∧ Below w.heap.size w wr) (fun i _ => 65536 - (intOf i).toNat)
  case atStart => exact ⟨0, by omega, rfl, HR4, HR2, HB.out⟩
  case round =>
    clear HR4 HR2 HB
    obtain ⟨d, hd, rfl, HX, HY, hb⟩ := hrel
    by_cases h1 : d < 65536
    · have h1' : (d : Int) < 65536 := by omega
      have c1 := HX.out.cell (i := d) h1
      rw [if_neg (Nat.lt_irrefl d)] at c1
      have c2 := HY.out.cell (i := d) h1
      have f1 := HX.out.frozen d
      obtain ⟨r, hr⟩ : ∃ r, opM (memB a d) (memB b d) = r := ⟨_, rfl⟩
      have HN : Hid ((_ : World).rowIs g 4 65536 (fun j => .bool (if j < d + 1 then opM (memB a j) (memB b j) else memB a j))) := Lib.hid ((HX.out.set d (.bool r)).congr fun j _ => by
        by_cases e : j = d
        · subst e; rw [if_pos rfl, if_pos (by omega), hr]
        · rw [if_neg e]; congr 1; by_cases hj : j < d
          · rw [if_pos hj, if_pos (by omega)]
          · rw [if_neg hj, if_neg (by omega)])
      have HY2 := Lib.hid (HY.out.setOther (a := ⟨g, d, none⟩) (fun e => hne e.symm) (.bool r))
      have HB2 := Lib.hid (hb.setCell (p := ⟨g, d, none⟩) HG.out (.bool r))
      clear hb HX HY
      rcases Bool.eq_false_or_eq_true (memB a d) with hma | hma <;> rcases Bool.eq_false_or_eq_true (memB b d) with hmb | hmb <;> cases r <;>
        (rw [hma] at c1 hr; rw [hmb] at c2 hr
         first
         | exact absurd hr (by decide)
         | (clear hma hmb hr; go_wp2; go_roundw
            case rel => exact ⟨d + 1, by omega, by go_num, HN, HY2, HB2.out⟩
            case measure => simp [intOf]; omega))
    · obtain rfl : d = 65536 := by omega
      have HZ := Lib.hid (show wr.rowIs g 4 65536 (fun j => .bool (opM (memB a j) (memB b j))) from HX.out.congr fun j hj => by rw [if_pos hj])
      have HB := Lib.hid hb
      clear hb HX HY
      go_wp2_with fail
      refine (HQ.out g _ HZ.out).mono ?_
      rintro e w5 ⟨⟨v1, rfl, ho⟩, hb5⟩
      have HO := Lib.hid (own_mono ho HB.out.size)
      have HE := Lib.hid (HB.out.trans (hb5.mono HB.out.size))
      clear ho hb5
      go_wp2
      go_ret2
      exact ⟨⟨_, rfl, HO.out⟩, HE.out⟩

set_option maxRecDepth 100000 in
set_option maxHeartbeats 8000000 in
theorem RBoth_Minus (va vb : Value) (a b : L) (ha : IsSet a) (hb : IsSet b) (w : World) (hla : Spn w va a) (hlb : Spn w vb b) :
    Calls Tryz.prog 17 #[.int .i64 2, va, vb] w (Gives (comb opD a b) w) := by
  have hvA := RValid_any va a w hla
  have hvB := fun W (hW : Below w.heap.size w W) => RValid_any vb b W (hlb.below hW (Nat.le_refl _))
  rw [(vldB_iff a).2 ha] at hvA
  rw [(vldB_iff b).2 hb] at hvB
  have HVA := Lib.hid hvA
  have HVB := Lib.hid hvB
  have HMA := Lib.hid (fun W (hW : Below w.heap.size w W) => Marks_ok va a (allOk_set' ha) W (hla.below hW (Nat.le_refl _)))
  have HMB := Lib.hid (fun W (hW : Below w.heap.size w W) => Marks_ok vb b (allOk_set' hb) W (hlb.below hW (Nat.le_refl _)))
  have HQ := Lib.hid (fun (g : Nat) (W : World) (hR : W.rowIs g 4 65536 (fun j => .bool (opD (memB a j) (memB b j)))) => Set_ok g (fun d => opD (memB a d) (memB b d)) (comb opD a b) (comb_spec opD rfl ha hb).1 (fun d _ _ => (memB_comb' (op := opD) rfl ha hb d).symm) W hR)
  clear hla hlb ha hb hvA hvB
  go_enter Tryz.func17, Tryz.ntmps17
  go_wp2_with fail
  refine HVA.out.mono ?_
  rintro e w1 ⟨rfl, hb1⟩
  have HB := Lib.hid hb1
  clear hb1
  go_wp2_with fail
  refine (HVB.out _ HB.out).mono ?_
  rintro e w2 ⟨rfl, hb2⟩
  replace HB := Lib.hid (HB.out.trans (hb2.mono HB.out.size))
  clear hb2
  go_wp2_with fail
  refine (HMA.out _ HB.out).mono ?_
  rintro e w3 ⟨⟨g, hg, rfl, hR⟩, hb3⟩
  have HG := Lib.hid (Nat.le_trans HB.out.size hg)
  replace HB := Lib.hid (HB.out.trans (hb3.mono HB.out.size))
  have HR := Lib.hid hR
  clear hg hR hb3
  go_wp2_with fail
  refine (HMB.out _ HB.out).mono ?_
  rintro e w4 ⟨⟨g2, hg2, rfl, hR2⟩, hb4⟩
  have hne : ¬ g = g2 := by have := HR.out.lt; omega
  have HR4 : Hid (w4.rowIs g 4 65536 (fun j => .bool (memB a j))) := Lib.hid (HR.out.of_block (hb4.block g HR.out.lt))
  replace HB := Lib.hid (HB.out.trans (hb4.mono HB.out.size))
  have HR2 := Lib.hid hR2
  clear hg2 hR2 hb4 HR
  go_wp2_with fail
  go_loopw [10] (fun i wr => ∃ d : Nat, d ≤ 65536 ∧ i = .int .i64 d ∧ Hid (wr.rowIs g 4 65536 (fun j => .bool (if j < d then opD (memB a j) (memB b j) else memB a j))) ∧ Hid (wr.rowIs g2 4 65536 (fun j => .bool (memB b j))) ∧ Below w.heap.size w wr) (fun i _ => 65536 - (intOf i).toNat)
  case atStart => exact ⟨0, by omega, rfl, HR4, HR2, HB.out⟩
  case round =>
    clear HR4 HR2 HB
    obtain ⟨d, hd, rfl, HX, HY, hb⟩ := hrel
    by_cases h1 : d < 65536
    · have h1' : (d : Int) < 65536 := by omega
      have c1 := HX.out.cell (i := d) h1
      rw [if_neg (Nat.lt_irrefl d)] at c1
      have c2 := HY.out.cell (i := d) h1
      have f1 := HX.out.frozen d
      obtain ⟨r, hr⟩ : ∃ r, opD (memB a d) (memB b d) = r := ⟨_, rfl⟩
      have HN : Hid ((_ : World).rowIs g 4 65536 (fun j => .bool (if j < d + 1 then opD (memB a j) (memB b j) else memB a j))) := Lib.hid ((HX.out.set d (.bool r)).congr fun j _ => by
        by_cases e : j = d
        · subst e; rw [if_pos rfl, if_pos (by omega), hr]
        · rw [if_neg e]; congr 1; by_cases hj : j < d
          · rw [if_pos hj, if_pos (by omega)]
          · rw [if_neg hj, if_neg (by omega)])
      have HY2 := Lib.hid (HY.out.setOther (a := ⟨g, d, none⟩) (fun e => hne e.symm) (.bool r))
      have HB2 := Lib.hid (hb.setCell (p := ⟨g, d, none⟩) HG.out (.bool r))
      clear hb HX HY
      rcases Bool.eq_false_or_eq_true (memB a d) with hma | hma <;> rcases Bool.eq_false_or_eq_true (memB b d) with hmb | hmb <;> cases r <;>
        (rw [hma] at c1 hr; rw [hmb] at c2 hr
         first
         | exact absurd hr (by decide)
         | (clear hma hmb hr; go_wp2; go_roundw
            case rel => exact ⟨d + 1, by omega, by go_num, HN, HY2, HB2.out⟩
            case measure => simp [intOf]; omega))
    · obtain rfl : d = 65536 := by omega
      have HZ := Lib.hid (show wr.rowIs g 4 65536 (fun j => .bool (opD (memB a j) (memB b j))) from HX.out.congr fun j hj => by rw [if_pos hj])
      have HB := Lib.hid hb
      clear hb HX HY
      go_wp2_with fail
      refine (HQ.out g _ HZ.out).mono ?_
      rintro e w5 ⟨⟨v1, rfl, ho⟩, hb5⟩
      have HO := Lib.hid (own_mono ho HB.out.size)
      have HE := Lib.hid (HB.out.trans (hb5.mono HB.out.size))
      clear ho hb5
      go_wp2
      go_ret2
      exact ⟨⟨_, rfl, HO.out⟩, HE.out⟩

set_option maxRecDepth 100000 in
set_option maxHeartbeats 8000000 in
theorem RWithin_yes (va vb : Value) (a b : L) (ha : IsSet a) (hb : IsSet b) (w : World) (hla : Spn w va a) (hlb : Spn w vb b) :
    Calls Tryz.prog 20 #[va, vb] w (Says (.bool (withinB a b)) w) := by
  have hvA := RValid_any va a w hla
  have hvB := fun W (hW : Below w.heap.size w W) => RValid_any vb b W (hlb.below hW (Nat.le_refl _))
  rw [(vldB_iff a).2 ha] at hvA
  rw [(vldB_iff b).2 hb] at hvB
  have HVA := Lib.hid hvA
  have HVB := Lib.hid hvB
  have HMA := Lib.hid (fun W (hW : Below w.heap.size w W) => Marks_ok va a (allOk_set' ha) W (hla.below hW (Nat.le_refl _)))
  have HMB := Lib.hid (fun W (hW : Below w.heap.size w W) => Marks_ok vb b (allOk_set' hb) W (hlb.below hW (Nat.le_refl _)))
  have HW := Lib.hid (within_memB ha hb)
  clear hla hlb ha hb hvA hvB
  go_enter Tryz.func20, Tryz.ntmps20
  go_wp2_with fail
  refine HVA.out.mono ?_
  rintro e w1 ⟨rfl, hb1⟩
  have HB := Lib.hid hb1
  clear hb1
  go_wp2_with fail
  refine (HVB.out _ HB.out).mono ?_
  rintro e w2 ⟨rfl, hb2⟩
  replace HB := Lib.hid (HB.out.trans (hb2.mono HB.out.size))
  clear hb2
  go_wp2_with fail
  refine (HMA.out _ HB.out).mono ?_
  rintro e w3 ⟨⟨g, hg, rfl, hR⟩, hb3⟩
  have HG := Lib.hid (Nat.le_trans HB.out.size hg)
  replace HB := Lib.hid (HB.out.trans (hb3.mono HB.out.size))
  have HR := Lib.hid hR
  clear hg hR hb3
  go_wp2_with fail
  refine (HMB.out _ HB.out).mono ?_
  rintro e w4 ⟨⟨g2, hg2, rfl, hR2⟩, hb4⟩
  have hne : ¬ g = g2 := by have := HR.out.lt; omega
  have HR4 : Hid (w4.rowIs g 4 65536 (fun j => .bool (memB a j))) := Lib.hid (HR.out.of_block (hb4.block g HR.out.lt))
  replace HB := Lib.hid (HB.out.trans (hb4.mono HB.out.size))
  have HR2 := Lib.hid hR2
  clear hg2 hR2 hb4 HR
  go_wp2_with fail
  go_loopw [7] (fun i wr => ∃ d : Nat, d ≤ 65536 ∧ i = .int .i64 d ∧ Hid (∀ j : Nat, j < d → memB a j = true → memB b j = true) ∧ wr = w4) (fun i _ => 65536 - (intOf i).toNat)
  case atStart => exact ⟨0, by omega, rfl, Lib.hid (fun j hj => by omega), rfl⟩
  case round =>
    obtain ⟨d, hd, rfl, HJ, rfl⟩ := hrel
    by_cases h1 : d < 65536
    · have h1' : (d : Int) < 65536 := by omega
      have c1 := HR4.out.cell (i := d) h1
      have c2 := HR2.out.cell (i := d) h1
      by_cases hbad : memB a d = true ∧ memB b d = false
      · have HF : Hid (withinB a b = false) := Lib.hid (by rw [Bool.eq_false_iff, ne_eq, HW.out]; intro h; have := h d h1 hbad.1; rw [hbad.2] at this; cases this)
        rw [hbad.1] at c1
        rw [hbad.2] at c2
        clear hbad
        go_wp2
        go_ret
        exact ⟨by rw [HF.out]; rfl, HB.out⟩
      · have HN : Hid (∀ j : Nat, j < d + 1 → memB a j = true → memB b j = true) := Lib.hid (fun j hj ha => by
          by_cases e : j = d
          · subst e; cases hh : memB b j with
            | true => rfl
            | false => exact absurd ⟨ha, hh⟩ hbad
          · exact HJ.out j (by omega) ha)
        rcases Bool.eq_false_or_eq_true (memB a d) with hma | hma
        · have hmb : memB b d = true := by cases hh : memB b d with
            | true => rfl
            | false => exact absurd ⟨hma, hh⟩ hbad
          rw [hma] at c1
          rw [hmb] at c2
          clear hma hmb hbad
          go_wp2
          go_roundw
          case rel => exact ⟨d + 1, by omega, by go_num, HN, trivial⟩
          case measure => simp [intOf]; omega
        · rw [hma] at c1
          clear hma hbad
          go_wp2
          go_roundw
          case rel => exact ⟨d + 1, by omega, by go_num, HN, trivial⟩
          case measure => simp [intOf]; omega
    · obtain rfl : d = 65536 := by omega
      have HF : Hid (withinB a b = true) := Lib.hid (HW.out.2 HJ.out)
      go_wp2
      go_ret
      exact ⟨by rw [HF.out]; rfl, HB.out⟩

end Go.Proofs.YtanlaejdibikiaaGreat
