/-
'both': Union, Meet, Minus and Within against the reference; what comes out shares no memory (ApartSpans: a premise here).
-/
import Derived.Test.YtanlaejdibikiaaGreatRefC
import Derived.Test.YtanlaejdibikiaaGreatRefV
import Derived.Test.YtanlaejdibikiaaGreatRefG
import Derived.Test.YtanlaejdibikiaaGreatOver
import Derived.Test.YtanlaejdibikiaaGreatAwake
namespace Go.Proofs.YtanlaejdibikiaaGreat
open Go.RowKit Go.Shelf Sp

theorem not_lent {W : World} {base B n : Nat} {v : Value} {xs : List Value} (h : W.ownsRow base 31 2 v n xs) (hB : B < base) : v.ownBlock = none ∨ v.ownBlock ≠ some B := by
  by_cases e : v.ownBlock = some B
  · have := (h.lt B e).1; omega
  · exact .inr e

set_option maxHeartbeats 1000000 in
theorem Few_any (v : Value) (l : L) (w : World) (h : Spn w v l) : Calls Tryz.prog 5 #[v] w fun e w' => e = .returned (.bool (decide (l.length ≤ 100))) ∧ w = w' := by
  obtain ⟨a, cap, rfl, hlc, ⟨hcm, hcl, hcn⟩, hcs⟩ := h
  by_cases hl : l.length ≤ 100
  · rw [decide_eq_true hl]
    have p : (l.length : Int) ≤ 100 := by omega
    go_enter Tryz.func5, Tryz.ntmps5
    go_wp2
    go_ret
    exact ⟨rfl, rfl⟩
  · rw [decide_eq_false hl]
    have p : ¬ (l.length : Int) ≤ 100 := by omega
    go_enter Tryz.func5, Tryz.ntmps5
    go_wp2
    go_ret
    exact ⟨rfl, rfl⟩

theorem sep {W W' : World} {base n n' : Nat} {va vb : Value} {xs ys : List Value} (ha : W.ownsRow base 31 2 va n xs) (hb : W'.ownsRow W.heap.size 31 2 vb n' ys) : va.ownBlock = none ∨ va.ownBlock ≠ vb.ownBlock := by
  cases hv : va.ownBlock with
  | none => exact .inl rfl
  | some k =>
    refine .inr fun e => ?_
    have h1 := (ha.lt k hv).2
    have h2 := (hb.lt k e.symm).1
    omega
theorem own_slice {W : World} {base n : Nat} {T : TypeId} {k : Nat} {v : Value} {xs : List Value} (h : W.ownsRow base T k v n xs) : ∃ a c, v = .slice a n c := by
  rcases h.2 with ⟨rfl, rfl⟩ | ⟨g, cap, cur, rfl, _⟩
  · exact ⟨none, 0, rfl⟩
  · exact ⟨_, cap, rfl⟩
theorem comb_len (op : Bool → Bool → Bool) (a b : L) : (comb op a b).length ≤ 2 * a.length + 2 * b.length := Nat.le_trans (run_len op _) (chg_length a b _ 0 0)
theorem lent_kept {n c base : Nat} {W W' : World} {B B' cap : Nat} {l : L} (h : Lent base W (.slice (some ⟨B, 0, none⟩) l.length cap) l) (hg : W.grownBy W' (Value.slice (some ⟨B', 0, none⟩) n c).ownBlock) (hne : ¬ B' = B) : Lent base W' (.slice (some ⟨B, 0, none⟩) l.length cap) l := by
  obtain ⟨b, cap', e, h1, hc, ho⟩ := h
  cases e
  exact ⟨B, cap, rfl, h1, hc, ho.kept hg (.inr (by simp [Value.ownBlock]; exact fun e => hne e.symm))⟩

/-- Three rows that are apart. -/
structure Three (N : Nat) (W : World) (v1 v2 v3 : Value) (l1 l2 l3 : L) : Prop where
  o1 : W.ownsRow N 31 2 v1 l1.length (cellsS l1)
  o2 : W.ownsRow N 31 2 v2 l2.length (cellsS l2)
  o3 : W.ownsRow N 31 2 v3 l3.length (cellsS l3)
  d12 : v1.ownBlock = none ∨ v1.ownBlock ≠ v2.ownBlock
  d13 : v1.ownBlock = none ∨ v1.ownBlock ≠ v3.ownBlock
  d23 : v2.ownBlock = none ∨ v2.ownBlock ≠ v3.ownBlock
/-- What ApartSpans answers of three rows that are apart. -/
def Aparts : Prop := ∀ (N : Nat) (W : World) (B : Nat) (v1 v2 v3 : Value) (l1 l2 l3 : L), N ≤ W.heap.size → N ≤ B → Three N W v1 v2 v3 l1 l2 l3 → W.heap[B]? = some (.cells #[v1, v2, v3] 22 (0, 0)) → l1.length ≤ 1000 → l2.length ≤ 1000 → l3.length ≤ 1000 →
  Calls Tryz.prog 23 #[.slice (some ⟨B, 0, none⟩) 3 3] W fun e W' => e = .returned (.bool true) ∧ Below N W W'

set_option maxRecDepth 100000 in
set_option maxHeartbeats 16000000 in
theorem both_any (HAP : Aparts) (va vb : Value) (a b : L) (hla : a.length ≤ 100) (hlb : b.length ≤ 100) (w : World) (h : Spn w va a) (h' : Spn w vb b) : Calls Tryz.prog 6 #[va, vb] w (Says (.bool true) w) := by
  have HB := Lib.hid (Below.refl w.heap.size w)
  have HSZ := Lib.hid (Nat.le_refl w.heap.size)
  have HU := Lib.hid h
  have HV := Lib.hid h'
  replace HAP := Lib.hid HAP
  clear h h'
  by_cases hs : IsSet a ∧ IsSet b
  · have HS := Lib.hid hs
    have HL1 := Lib.hid (Nat.le_trans (comb_len opU a b) (show 2 * a.length + 2 * b.length ≤ 400 by omega))
    have HL2 := Lib.hid (Nat.le_trans (comb_len opM a b) (show 2 * a.length + 2 * b.length ≤ 400 by omega))
    have HL3 := Lib.hid (Nat.le_trans (comb_len opD a b) (show 2 * a.length + 2 * b.length ≤ 400 by omega))
    clear hs
    go_enter Tryz.func6, Tryz.ntmps6
    go_wp2_with fail
    refine (LentSpans_any _ _ (by omega) _ HU.out).mono ?_
    rintro e w1 ⟨⟨vin, rfl, hL⟩, hb⟩
    replace HU := Lib.hid (HU.out.below hb (Nat.le_refl _))
    replace HV := Lib.hid (HV.out.below hb (Nat.le_refl _))
    replace HB := Lib.hid (HB.out.trans (hb.mono HB.out.size))
    obtain ⟨Bin, capin, rfl, hB0in, hccin, hoo⟩ := hL
    have Lin : Hid (Lent w.heap.size w1 _ _) := Lib.hid ⟨Bin, capin, rfl, Nat.le_trans HSZ.out hB0in, hccin, own_mono hoo HSZ.out⟩
    have hBin : Bin < w1.heap.size := (hoo.lt Bin rfl).2
    replace hB0in : w.heap.size ≤ Bin := Nat.le_trans HSZ.out hB0in
    replace HSZ := Lib.hid HB.out.size
    have Hin := Lib.hid (Lin.out.spn (by omega))
    clear hoo hb
    go_wp2_with fail
    refine (LentSpans_any _ _ (by omega) _ HV.out).mono ?_
    rintro e w2 ⟨⟨vjn, rfl, hL⟩, hb⟩
    replace Lin := Lib.hid (Lin.out.below hb)
    have hBpin := hBin
    replace hBin := Nat.lt_of_lt_of_le hBin hb.size
    replace HU := Lib.hid (HU.out.below hb (Nat.le_refl _))
    replace HV := Lib.hid (HV.out.below hb (Nat.le_refl _))
    replace Hin := Lib.hid (Hin.out.below hb (Nat.le_refl _))
    replace HB := Lib.hid (HB.out.trans (hb.mono HB.out.size))
    obtain ⟨Bjn, capjn, rfl, hB0jn, hccjn, hoo⟩ := hL
    have hneinjn : ¬ Bin = Bjn := by omega
    have Ljn : Hid (Lent w.heap.size w2 _ _) := Lib.hid ⟨Bjn, capjn, rfl, Nat.le_trans HSZ.out hB0jn, hccjn, own_mono hoo HSZ.out⟩
    have hBjn : Bjn < w2.heap.size := (hoo.lt Bjn rfl).2
    replace hB0jn : w.heap.size ≤ Bjn := Nat.le_trans HSZ.out hB0jn
    replace HSZ := Lib.hid HB.out.size
    have Hjn := Lib.hid (Ljn.out.spn (by omega))
    clear hoo hb
    have HZu := Lib.hid HB.out.size
    go_wp2_with fail
    refine (Union_ok _ _ _ _ HS.out.1 HS.out.2 _ Hin.out Hjn.out).mono ?_
    rintro e w3 ⟨⟨vu, rfl, hown⟩, hb⟩
    replace Lin := Lib.hid (Lin.out.below hb)
    replace hBpin := hBin
    replace hBin := Nat.lt_of_lt_of_le hBin hb.size
    replace Ljn := Lib.hid (Ljn.out.below hb)
    have hBpjn := hBjn
    replace hBjn := Nat.lt_of_lt_of_le hBjn hb.size
    replace HU := Lib.hid (HU.out.below hb (Nat.le_refl _))
    replace HV := Lib.hid (HV.out.below hb (Nat.le_refl _))
    replace Hin := Lib.hid (Hin.out.below hb (Nat.le_refl _))
    replace Hjn := Lib.hid (Hjn.out.below hb (Nat.le_refl _))
    replace HB := Lib.hid (HB.out.trans (hb.mono HB.out.size))
    have Ou := Lib.hid hown
    have Nuin := not_lent hown hBpin
    have Nujn := not_lent hown hBpjn
    clear hown
    clear hb
    have Pu := Ou
    have HZv := Lib.hid HB.out.size
    go_wp2_with fail
    refine (Meet_ok _ _ _ _ HS.out.1 HS.out.2 _ Hin.out Hjn.out).mono ?_
    rintro e w4 ⟨⟨vv, rfl, hown⟩, hb⟩
    replace Lin := Lib.hid (Lin.out.below hb)
    replace hBpin := hBin
    replace hBin := Nat.lt_of_lt_of_le hBin hb.size
    replace Ljn := Lib.hid (Ljn.out.below hb)
    replace hBpjn := hBjn
    replace hBjn := Nat.lt_of_lt_of_le hBjn hb.size
    replace Ou := Lib.hid (Ou.out.kept (grown_of_below hb) (Classical.em _))
    replace HU := Lib.hid (HU.out.below hb (Nat.le_refl _))
    replace HV := Lib.hid (HV.out.below hb (Nat.le_refl _))
    replace Hin := Lib.hid (Hin.out.below hb (Nat.le_refl _))
    replace Hjn := Lib.hid (Hjn.out.below hb (Nat.le_refl _))
    replace HB := Lib.hid (HB.out.trans (hb.mono HB.out.size))
    have Ov := Lib.hid hown
    have Nvin := not_lent hown hBpin
    have Nvjn := not_lent hown hBpjn
    have Duv := sep Pu.out hown
    clear Pu
    clear hown
    clear hb
    have Pu := Ou
    have Pv := Ov
    have HZw0 := Lib.hid HB.out.size
    go_wp2_with fail
    refine (Minus_ok _ _ _ _ HS.out.1 HS.out.2 _ Hin.out Hjn.out).mono ?_
    rintro e w5 ⟨⟨vw0, rfl, hown⟩, hb⟩
    replace Lin := Lib.hid (Lin.out.below hb)
    replace hBpin := hBin
    replace hBin := Nat.lt_of_lt_of_le hBin hb.size
    replace Ljn := Lib.hid (Ljn.out.below hb)
    replace hBpjn := hBjn
    replace hBjn := Nat.lt_of_lt_of_le hBjn hb.size
    replace Ou := Lib.hid (Ou.out.kept (grown_of_below hb) (Classical.em _))
    replace Ov := Lib.hid (Ov.out.kept (grown_of_below hb) (Classical.em _))
    replace HU := Lib.hid (HU.out.below hb (Nat.le_refl _))
    replace HV := Lib.hid (HV.out.below hb (Nat.le_refl _))
    replace Hin := Lib.hid (Hin.out.below hb (Nat.le_refl _))
    replace Hjn := Lib.hid (Hjn.out.below hb (Nat.le_refl _))
    replace HB := Lib.hid (HB.out.trans (hb.mono HB.out.size))
    have Ow0 := Lib.hid hown
    have Nw0in := not_lent hown hBpin
    have Nw0jn := not_lent hown hBpjn
    have Duw0 := sep Pu.out hown
    clear Pu
    have Dvw0 := sep Pv.out hown
    clear Pv
    clear hown
    clear hb
    have Pu := Ou
    have Pv := Ov
    have Pw0 := Ow0
    have HZp := Lib.hid HB.out.size
    go_wp2_with fail
    refine (RBoth_Union _ _ _ _ HS.out.1 HS.out.2 _ HU.out HV.out).mono ?_
    rintro e w6 ⟨⟨vp, rfl, hown⟩, hb⟩
    replace Lin := Lib.hid (Lin.out.below hb)
    replace hBpin := hBin
    replace hBin := Nat.lt_of_lt_of_le hBin hb.size
    replace Ljn := Lib.hid (Ljn.out.below hb)
    replace hBpjn := hBjn
    replace hBjn := Nat.lt_of_lt_of_le hBjn hb.size
    replace Ou := Lib.hid (Ou.out.kept (grown_of_below hb) (Classical.em _))
    replace Ov := Lib.hid (Ov.out.kept (grown_of_below hb) (Classical.em _))
    replace Ow0 := Lib.hid (Ow0.out.kept (grown_of_below hb) (Classical.em _))
    replace HU := Lib.hid (HU.out.below hb (Nat.le_refl _))
    replace HV := Lib.hid (HV.out.below hb (Nat.le_refl _))
    replace Hin := Lib.hid (Hin.out.below hb (Nat.le_refl _))
    replace Hjn := Lib.hid (Hjn.out.below hb (Nat.le_refl _))
    replace HB := Lib.hid (HB.out.trans (hb.mono HB.out.size))
    have Op := Lib.hid hown
    have Npin := not_lent hown hBpin
    have Npjn := not_lent hown hBpjn
    have Dup := sep Pu.out hown
    clear Pu
    have Dvp := sep Pv.out hown
    clear Pv
    have Dw0p := sep Pw0.out hown
    clear Pw0
    clear hown
    clear hb
    have Pu := Ou
    have Pv := Ov
    have Pw0 := Ow0
    have Pp := Op
    have HZq := Lib.hid HB.out.size
    go_wp2_with fail
    refine (RBoth_Meet _ _ _ _ HS.out.1 HS.out.2 _ HU.out HV.out).mono ?_
    rintro e w7 ⟨⟨vq, rfl, hown⟩, hb⟩
    replace Lin := Lib.hid (Lin.out.below hb)
    replace hBpin := hBin
    replace hBin := Nat.lt_of_lt_of_le hBin hb.size
    replace Ljn := Lib.hid (Ljn.out.below hb)
    replace hBpjn := hBjn
    replace hBjn := Nat.lt_of_lt_of_le hBjn hb.size
    replace Ou := Lib.hid (Ou.out.kept (grown_of_below hb) (Classical.em _))
    replace Ov := Lib.hid (Ov.out.kept (grown_of_below hb) (Classical.em _))
    replace Ow0 := Lib.hid (Ow0.out.kept (grown_of_below hb) (Classical.em _))
    replace Op := Lib.hid (Op.out.kept (grown_of_below hb) (Classical.em _))
    replace HU := Lib.hid (HU.out.below hb (Nat.le_refl _))
    replace HV := Lib.hid (HV.out.below hb (Nat.le_refl _))
    replace Hin := Lib.hid (Hin.out.below hb (Nat.le_refl _))
    replace Hjn := Lib.hid (Hjn.out.below hb (Nat.le_refl _))
    replace HB := Lib.hid (HB.out.trans (hb.mono HB.out.size))
    have Oq := Lib.hid hown
    have Nqin := not_lent hown hBpin
    have Nqjn := not_lent hown hBpjn
    have Duq := sep Pu.out hown
    clear Pu
    have Dvq := sep Pv.out hown
    clear Pv
    have Dw0q := sep Pw0.out hown
    clear Pw0
    have Dpq := sep Pp.out hown
    clear Pp
    clear hown
    clear hb
    have Pu := Ou
    have Pv := Ov
    have Pw0 := Ow0
    have Pp := Op
    have Pq := Oq
    have HZr := Lib.hid HB.out.size
    go_wp2_with fail
    refine (RBoth_Minus _ _ _ _ HS.out.1 HS.out.2 _ HU.out HV.out).mono ?_
    rintro e w8 ⟨⟨vr, rfl, hown⟩, hb⟩
    replace Lin := Lib.hid (Lin.out.below hb)
    replace hBpin := hBin
    replace hBin := Nat.lt_of_lt_of_le hBin hb.size
    replace Ljn := Lib.hid (Ljn.out.below hb)
    replace hBpjn := hBjn
    replace hBjn := Nat.lt_of_lt_of_le hBjn hb.size
    replace Ou := Lib.hid (Ou.out.kept (grown_of_below hb) (Classical.em _))
    replace Ov := Lib.hid (Ov.out.kept (grown_of_below hb) (Classical.em _))
    replace Ow0 := Lib.hid (Ow0.out.kept (grown_of_below hb) (Classical.em _))
    replace Op := Lib.hid (Op.out.kept (grown_of_below hb) (Classical.em _))
    replace Oq := Lib.hid (Oq.out.kept (grown_of_below hb) (Classical.em _))
    replace HU := Lib.hid (HU.out.below hb (Nat.le_refl _))
    replace HV := Lib.hid (HV.out.below hb (Nat.le_refl _))
    replace Hin := Lib.hid (Hin.out.below hb (Nat.le_refl _))
    replace Hjn := Lib.hid (Hjn.out.below hb (Nat.le_refl _))
    replace HB := Lib.hid (HB.out.trans (hb.mono HB.out.size))
    have Or := Lib.hid hown
    have Nrin := not_lent hown hBpin
    have Nrjn := not_lent hown hBpjn
    have Dur := sep Pu.out hown
    clear Pu
    have Dvr := sep Pv.out hown
    clear Pv
    have Dw0r := sep Pw0.out hown
    clear Pw0
    have Dpr := sep Pp.out hown
    clear Pp
    have Dqr := sep Pq.out hown
    clear Pq
    clear hown
    clear hb
    go_wp2_with fail
    refine (KeptSpans_any _ _ _ _ (by omega) _ Lin.out HU.out).mono ?_
    rintro e w9 ⟨rfl, hb⟩
    replace Lin := Lib.hid (Lin.out.below hb)
    replace hBpin := hBin
    replace hBin := Nat.lt_of_lt_of_le hBin hb.size
    replace Ljn := Lib.hid (Ljn.out.below hb)
    replace hBpjn := hBjn
    replace hBjn := Nat.lt_of_lt_of_le hBjn hb.size
    replace Ou := Lib.hid (Ou.out.kept (grown_of_below hb) (Classical.em _))
    replace Ov := Lib.hid (Ov.out.kept (grown_of_below hb) (Classical.em _))
    replace Ow0 := Lib.hid (Ow0.out.kept (grown_of_below hb) (Classical.em _))
    replace Op := Lib.hid (Op.out.kept (grown_of_below hb) (Classical.em _))
    replace Oq := Lib.hid (Oq.out.kept (grown_of_below hb) (Classical.em _))
    replace Or := Lib.hid (Or.out.kept (grown_of_below hb) (Classical.em _))
    replace HU := Lib.hid (HU.out.below hb (Nat.le_refl _))
    replace HV := Lib.hid (HV.out.below hb (Nat.le_refl _))
    replace Hin := Lib.hid (Hin.out.below hb (Nat.le_refl _))
    replace Hjn := Lib.hid (Hjn.out.below hb (Nat.le_refl _))
    replace HB := Lib.hid (HB.out.trans (hb.mono HB.out.size))
    clear hb
    go_wp2_with fail
    refine (KeptSpans_any _ _ _ _ (by omega) _ Ljn.out HV.out).mono ?_
    rintro e w10 ⟨rfl, hb⟩
    replace Lin := Lib.hid (Lin.out.below hb)
    replace hBpin := hBin
    replace hBin := Nat.lt_of_lt_of_le hBin hb.size
    replace Ljn := Lib.hid (Ljn.out.below hb)
    replace hBpjn := hBjn
    replace hBjn := Nat.lt_of_lt_of_le hBjn hb.size
    replace Ou := Lib.hid (Ou.out.kept (grown_of_below hb) (Classical.em _))
    replace Ov := Lib.hid (Ov.out.kept (grown_of_below hb) (Classical.em _))
    replace Ow0 := Lib.hid (Ow0.out.kept (grown_of_below hb) (Classical.em _))
    replace Op := Lib.hid (Op.out.kept (grown_of_below hb) (Classical.em _))
    replace Oq := Lib.hid (Oq.out.kept (grown_of_below hb) (Classical.em _))
    replace Or := Lib.hid (Or.out.kept (grown_of_below hb) (Classical.em _))
    replace HU := Lib.hid (HU.out.below hb (Nat.le_refl _))
    replace HV := Lib.hid (HV.out.below hb (Nat.le_refl _))
    replace Hin := Lib.hid (Hin.out.below hb (Nat.le_refl _))
    replace Hjn := Lib.hid (Hjn.out.below hb (Nat.le_refl _))
    replace HB := Lib.hid (HB.out.trans (hb.mono HB.out.size))
    clear hb
    go_wp2_with fail
    refine (Within_yes _ _ _ _ HS.out.1 HS.out.2 _ Hin.out Hjn.out).mono ?_
    rintro e w11 ⟨rfl, hb⟩
    replace Lin := Lib.hid (Lin.out.below hb)
    replace hBpin := hBin
    replace hBin := Nat.lt_of_lt_of_le hBin hb.size
    replace Ljn := Lib.hid (Ljn.out.below hb)
    replace hBpjn := hBjn
    replace hBjn := Nat.lt_of_lt_of_le hBjn hb.size
    replace Ou := Lib.hid (Ou.out.kept (grown_of_below hb) (Classical.em _))
    replace Ov := Lib.hid (Ov.out.kept (grown_of_below hb) (Classical.em _))
    replace Ow0 := Lib.hid (Ow0.out.kept (grown_of_below hb) (Classical.em _))
    replace Op := Lib.hid (Op.out.kept (grown_of_below hb) (Classical.em _))
    replace Oq := Lib.hid (Oq.out.kept (grown_of_below hb) (Classical.em _))
    replace Or := Lib.hid (Or.out.kept (grown_of_below hb) (Classical.em _))
    replace HU := Lib.hid (HU.out.below hb (Nat.le_refl _))
    replace HV := Lib.hid (HV.out.below hb (Nat.le_refl _))
    replace Hin := Lib.hid (Hin.out.below hb (Nat.le_refl _))
    replace Hjn := Lib.hid (Hjn.out.below hb (Nat.le_refl _))
    replace HB := Lib.hid (HB.out.trans (hb.mono HB.out.size))
    clear hb
    go_wp2_with fail
    refine (RWithin_yes _ _ _ _ HS.out.1 HS.out.2 _ HU.out HV.out).mono ?_
    rintro e w12 ⟨rfl, hb⟩
    replace Lin := Lib.hid (Lin.out.below hb)
    replace hBpin := hBin
    replace hBin := Nat.lt_of_lt_of_le hBin hb.size
    replace Ljn := Lib.hid (Ljn.out.below hb)
    replace hBpjn := hBjn
    replace hBjn := Nat.lt_of_lt_of_le hBjn hb.size
    replace Ou := Lib.hid (Ou.out.kept (grown_of_below hb) (Classical.em _))
    replace Ov := Lib.hid (Ov.out.kept (grown_of_below hb) (Classical.em _))
    replace Ow0 := Lib.hid (Ow0.out.kept (grown_of_below hb) (Classical.em _))
    replace Op := Lib.hid (Op.out.kept (grown_of_below hb) (Classical.em _))
    replace Oq := Lib.hid (Oq.out.kept (grown_of_below hb) (Classical.em _))
    replace Or := Lib.hid (Or.out.kept (grown_of_below hb) (Classical.em _))
    replace HU := Lib.hid (HU.out.below hb (Nat.le_refl _))
    replace HV := Lib.hid (HV.out.below hb (Nat.le_refl _))
    replace Hin := Lib.hid (Hin.out.below hb (Nat.le_refl _))
    replace Hjn := Lib.hid (Hjn.out.below hb (Nat.le_refl _))
    replace HB := Lib.hid (HB.out.trans (hb.mono HB.out.size))
    clear hb
    go_wp2_with fail
    refine (OverSpans_any _ _ _ (by omega) _ Lin.out).mono ?_
    rintro e w13 ⟨rfl, hg⟩
    replace Ou := Lib.hid (Ou.out.kept hg Nuin)
    replace Ov := Lib.hid (Ov.out.kept hg Nvin)
    replace Ow0 := Lib.hid (Ow0.out.kept hg Nw0in)
    replace Op := Lib.hid (Op.out.kept hg Npin)
    replace Oq := Lib.hid (Oq.out.kept hg Nqin)
    replace Or := Lib.hid (Or.out.kept hg Nrin)
    replace Ljn := Lib.hid (lent_kept Ljn.out hg hneinjn)
    replace HB := Lib.hid (HB.out.grown hg HB.out.size (fun k e => by obtain rfl : Bin = k := (by simpa [Value.ownBlock] using e); exact hB0in))
    clear hg
    clear HU
    clear HV
    clear Hin
    clear Hjn
    go_wp2_with fail
    refine (OverSpans_any _ _ _ (by omega) _ Ljn.out).mono ?_
    rintro e w14 ⟨rfl, hg⟩
    replace Ou := Lib.hid (Ou.out.kept hg Nujn)
    replace Ov := Lib.hid (Ov.out.kept hg Nvjn)
    replace Ow0 := Lib.hid (Ow0.out.kept hg Nw0jn)
    replace Op := Lib.hid (Op.out.kept hg Npjn)
    replace Oq := Lib.hid (Oq.out.kept hg Nqjn)
    replace Or := Lib.hid (Or.out.kept hg Nrjn)
    replace HB := Lib.hid (HB.out.grown hg HB.out.size (fun k e => by obtain rfl : Bjn = k := (by simpa [Value.ownBlock] using e); exact hB0jn))
    clear hg
    go_wp2_with fail
    refine (Same_eq rfl (Spn.of_owns Ou.out (by have := HL1.out; omega)) (Spn.of_owns Op.out (by have := HL1.out; omega))).mono ?_
    rintro e w15 ⟨rfl, hb⟩
    replace Ou := Lib.hid (Ou.out.kept (grown_of_below hb) (Classical.em _))
    replace Ov := Lib.hid (Ov.out.kept (grown_of_below hb) (Classical.em _))
    replace Ow0 := Lib.hid (Ow0.out.kept (grown_of_below hb) (Classical.em _))
    replace Op := Lib.hid (Op.out.kept (grown_of_below hb) (Classical.em _))
    replace Oq := Lib.hid (Oq.out.kept (grown_of_below hb) (Classical.em _))
    replace Or := Lib.hid (Or.out.kept (grown_of_below hb) (Classical.em _))
    replace HB := Lib.hid (HB.out.trans (hb.mono HB.out.size))
    clear hb
    go_wp2_with fail
    refine (Same_eq rfl (Spn.of_owns Ov.out (by have := HL2.out; omega)) (Spn.of_owns Oq.out (by have := HL2.out; omega))).mono ?_
    rintro e w16 ⟨rfl, hb⟩
    replace Ou := Lib.hid (Ou.out.kept (grown_of_below hb) (Classical.em _))
    replace Ov := Lib.hid (Ov.out.kept (grown_of_below hb) (Classical.em _))
    replace Ow0 := Lib.hid (Ow0.out.kept (grown_of_below hb) (Classical.em _))
    replace Op := Lib.hid (Op.out.kept (grown_of_below hb) (Classical.em _))
    replace Oq := Lib.hid (Oq.out.kept (grown_of_below hb) (Classical.em _))
    replace Or := Lib.hid (Or.out.kept (grown_of_below hb) (Classical.em _))
    replace HB := Lib.hid (HB.out.trans (hb.mono HB.out.size))
    clear hb
    go_wp2_with fail
    refine (Same_eq rfl (Spn.of_owns Ow0.out (by have := HL3.out; omega)) (Spn.of_owns Or.out (by have := HL3.out; omega))).mono ?_
    rintro e w17 ⟨rfl, hb⟩
    replace Ou := Lib.hid (Ou.out.kept (grown_of_below hb) (Classical.em _))
    replace Ov := Lib.hid (Ov.out.kept (grown_of_below hb) (Classical.em _))
    replace Ow0 := Lib.hid (Ow0.out.kept (grown_of_below hb) (Classical.em _))
    replace Op := Lib.hid (Op.out.kept (grown_of_below hb) (Classical.em _))
    replace Oq := Lib.hid (Oq.out.kept (grown_of_below hb) (Classical.em _))
    replace Or := Lib.hid (Or.out.kept (grown_of_below hb) (Classical.em _))
    replace HB := Lib.hid (HB.out.trans (hb.mono HB.out.size))
    clear hb
    obtain ⟨au, cu, rfl⟩ := own_slice Ou.out
    obtain ⟨av, cv, rfl⟩ := own_slice Ov.out
    obtain ⟨aw0, cw0, rfl⟩ := own_slice Ow0.out
    have HTH := Lib.hid (show Three w.heap.size (w17.alloc (.cells #[.slice au (comb opU a b).length cu, .slice av (comb opM a b).length cv, .slice aw0 (comb opD a b).length cw0] 22)) (.slice au (comb opU a b).length cu) (.slice av (comb opM a b).length cv) (.slice aw0 (comb opD a b).length cw0) _ _ _ from ⟨own_mono (Ou.out.alloc _) HZu.out, own_mono (Ov.out.alloc _) HZv.out, own_mono (Ow0.out.alloc _) HZw0.out, Duv, Duw0, Dvw0⟩)
    have HBX := Lib.hid (HB.out.alloc HB.out.size (.cells #[.slice au (comb opU a b).length cu, .slice av (comb opM a b).length cv, .slice aw0 (comb opD a b).length cw0] 22))
    go_wp2_with fail
    refine (HAP.out w.heap.size _ _ _ _ _ _ _ _ HBX.out.size HB.out.size HTH.out (World.alloc_heap_new _ _) (by have := HL1.out; omega) (by have := HL2.out; omega) (by have := HL3.out; omega)).mono ?_
    rintro e wz ⟨rfl, hb⟩
    have HE := Lib.hid (HBX.out.trans hb)
    clear hb
    go_wp2
    go_ret
    exact ⟨rfl, HE.out⟩

  · have HS := Lib.hid hs
    clear hs
    go_enter Tryz.func6, Tryz.ntmps6
    go_wp2_with fail
    refine (LentSpans_any _ _ (by omega) _ HU.out).mono ?_
    rintro e w1 ⟨⟨vin, rfl, hL⟩, hb⟩
    replace HU := Lib.hid (HU.out.below hb (Nat.le_refl _))
    replace HV := Lib.hid (HV.out.below hb (Nat.le_refl _))
    replace HB := Lib.hid (HB.out.trans (hb.mono HB.out.size))
    obtain ⟨Bin, capin, rfl, hB0in, hccin, hoo⟩ := hL
    have Lin : Hid (Lent w.heap.size w1 _ _) := Lib.hid ⟨Bin, capin, rfl, Nat.le_trans HSZ.out hB0in, hccin, own_mono hoo HSZ.out⟩
    have hBin : Bin < w1.heap.size := (hoo.lt Bin rfl).2
    replace hB0in : w.heap.size ≤ Bin := Nat.le_trans HSZ.out hB0in
    replace HSZ := Lib.hid HB.out.size
    have Hin := Lib.hid (Lin.out.spn (by omega))
    clear hoo hb
    go_wp2_with fail
    refine (LentSpans_any _ _ (by omega) _ HV.out).mono ?_
    rintro e w2 ⟨⟨vjn, rfl, hL⟩, hb⟩
    replace Lin := Lib.hid (Lin.out.below hb)
    have hBpin := hBin
    replace hBin := Nat.lt_of_lt_of_le hBin hb.size
    replace HU := Lib.hid (HU.out.below hb (Nat.le_refl _))
    replace HV := Lib.hid (HV.out.below hb (Nat.le_refl _))
    replace Hin := Lib.hid (Hin.out.below hb (Nat.le_refl _))
    replace HB := Lib.hid (HB.out.trans (hb.mono HB.out.size))
    obtain ⟨Bjn, capjn, rfl, hB0jn, hccjn, hoo⟩ := hL
    have hneinjn : ¬ Bin = Bjn := by omega
    have Ljn : Hid (Lent w.heap.size w2 _ _) := Lib.hid ⟨Bjn, capjn, rfl, Nat.le_trans HSZ.out hB0jn, hccjn, own_mono hoo HSZ.out⟩
    have hBjn : Bjn < w2.heap.size := (hoo.lt Bjn rfl).2
    replace hB0jn : w.heap.size ≤ Bjn := Nat.le_trans HSZ.out hB0jn
    replace HSZ := Lib.hid HB.out.size
    have Hjn := Lib.hid (Ljn.out.spn (by omega))
    clear hoo hb
    go_wp2_with fail
    refine (Union_no _ _ _ _ HS.out _ Hin.out Hjn.out).mono ?_
    rintro e w3 ⟨rfl, hb⟩
    replace Lin := Lib.hid (Lin.out.below hb)
    replace hBpin := hBin
    replace hBin := Nat.lt_of_lt_of_le hBin hb.size
    replace Ljn := Lib.hid (Ljn.out.below hb)
    have hBpjn := hBjn
    replace hBjn := Nat.lt_of_lt_of_le hBjn hb.size
    replace HU := Lib.hid (HU.out.below hb (Nat.le_refl _))
    replace HV := Lib.hid (HV.out.below hb (Nat.le_refl _))
    replace Hin := Lib.hid (Hin.out.below hb (Nat.le_refl _))
    replace Hjn := Lib.hid (Hjn.out.below hb (Nat.le_refl _))
    replace HB := Lib.hid (HB.out.trans (hb.mono HB.out.size))
    clear hb
    go_wp2_with fail
    refine (Meet_no _ _ _ _ HS.out _ Hin.out Hjn.out).mono ?_
    rintro e w4 ⟨rfl, hb⟩
    replace Lin := Lib.hid (Lin.out.below hb)
    replace hBpin := hBin
    replace hBin := Nat.lt_of_lt_of_le hBin hb.size
    replace Ljn := Lib.hid (Ljn.out.below hb)
    replace hBpjn := hBjn
    replace hBjn := Nat.lt_of_lt_of_le hBjn hb.size
    replace HU := Lib.hid (HU.out.below hb (Nat.le_refl _))
    replace HV := Lib.hid (HV.out.below hb (Nat.le_refl _))
    replace Hin := Lib.hid (Hin.out.below hb (Nat.le_refl _))
    replace Hjn := Lib.hid (Hjn.out.below hb (Nat.le_refl _))
    replace HB := Lib.hid (HB.out.trans (hb.mono HB.out.size))
    clear hb
    go_wp2_with fail
    refine (Minus_no _ _ _ _ HS.out _ Hin.out Hjn.out).mono ?_
    rintro e w5 ⟨rfl, hb⟩
    replace Lin := Lib.hid (Lin.out.below hb)
    replace hBpin := hBin
    replace hBin := Nat.lt_of_lt_of_le hBin hb.size
    replace Ljn := Lib.hid (Ljn.out.below hb)
    replace hBpjn := hBjn
    replace hBjn := Nat.lt_of_lt_of_le hBjn hb.size
    replace HU := Lib.hid (HU.out.below hb (Nat.le_refl _))
    replace HV := Lib.hid (HV.out.below hb (Nat.le_refl _))
    replace Hin := Lib.hid (Hin.out.below hb (Nat.le_refl _))
    replace Hjn := Lib.hid (Hjn.out.below hb (Nat.le_refl _))
    replace HB := Lib.hid (HB.out.trans (hb.mono HB.out.size))
    clear hb
    go_wp2_with fail
    refine (RBoth_no _ _ _ _ _ HS.out _ HU.out HV.out).mono ?_
    rintro e w6 ⟨rfl, hb⟩
    replace Lin := Lib.hid (Lin.out.below hb)
    replace hBpin := hBin
    replace hBin := Nat.lt_of_lt_of_le hBin hb.size
    replace Ljn := Lib.hid (Ljn.out.below hb)
    replace hBpjn := hBjn
    replace hBjn := Nat.lt_of_lt_of_le hBjn hb.size
    replace HU := Lib.hid (HU.out.below hb (Nat.le_refl _))
    replace HV := Lib.hid (HV.out.below hb (Nat.le_refl _))
    replace Hin := Lib.hid (Hin.out.below hb (Nat.le_refl _))
    replace Hjn := Lib.hid (Hjn.out.below hb (Nat.le_refl _))
    replace HB := Lib.hid (HB.out.trans (hb.mono HB.out.size))
    clear hb
    go_wp2_with fail
    refine (RBoth_no _ _ _ _ _ HS.out _ HU.out HV.out).mono ?_
    rintro e w7 ⟨rfl, hb⟩
    replace Lin := Lib.hid (Lin.out.below hb)
    replace hBpin := hBin
    replace hBin := Nat.lt_of_lt_of_le hBin hb.size
    replace Ljn := Lib.hid (Ljn.out.below hb)
    replace hBpjn := hBjn
    replace hBjn := Nat.lt_of_lt_of_le hBjn hb.size
    replace HU := Lib.hid (HU.out.below hb (Nat.le_refl _))
    replace HV := Lib.hid (HV.out.below hb (Nat.le_refl _))
    replace Hin := Lib.hid (Hin.out.below hb (Nat.le_refl _))
    replace Hjn := Lib.hid (Hjn.out.below hb (Nat.le_refl _))
    replace HB := Lib.hid (HB.out.trans (hb.mono HB.out.size))
    clear hb
    go_wp2_with fail
    refine (RBoth_no _ _ _ _ _ HS.out _ HU.out HV.out).mono ?_
    rintro e w8 ⟨rfl, hb⟩
    replace Lin := Lib.hid (Lin.out.below hb)
    replace hBpin := hBin
    replace hBin := Nat.lt_of_lt_of_le hBin hb.size
    replace Ljn := Lib.hid (Ljn.out.below hb)
    replace hBpjn := hBjn
    replace hBjn := Nat.lt_of_lt_of_le hBjn hb.size
    replace HU := Lib.hid (HU.out.below hb (Nat.le_refl _))
    replace HV := Lib.hid (HV.out.below hb (Nat.le_refl _))
    replace Hin := Lib.hid (Hin.out.below hb (Nat.le_refl _))
    replace Hjn := Lib.hid (Hjn.out.below hb (Nat.le_refl _))
    replace HB := Lib.hid (HB.out.trans (hb.mono HB.out.size))
    clear hb
    go_wp2_with fail
    refine (KeptSpans_any _ _ _ _ (by omega) _ Lin.out HU.out).mono ?_
    rintro e w9 ⟨rfl, hb⟩
    replace Lin := Lib.hid (Lin.out.below hb)
    replace hBpin := hBin
    replace hBin := Nat.lt_of_lt_of_le hBin hb.size
    replace Ljn := Lib.hid (Ljn.out.below hb)
    replace hBpjn := hBjn
    replace hBjn := Nat.lt_of_lt_of_le hBjn hb.size
    replace HU := Lib.hid (HU.out.below hb (Nat.le_refl _))
    replace HV := Lib.hid (HV.out.below hb (Nat.le_refl _))
    replace Hin := Lib.hid (Hin.out.below hb (Nat.le_refl _))
    replace Hjn := Lib.hid (Hjn.out.below hb (Nat.le_refl _))
    replace HB := Lib.hid (HB.out.trans (hb.mono HB.out.size))
    clear hb
    go_wp2_with fail
    refine (KeptSpans_any _ _ _ _ (by omega) _ Ljn.out HV.out).mono ?_
    rintro e w10 ⟨rfl, hb⟩
    replace Lin := Lib.hid (Lin.out.below hb)
    replace hBpin := hBin
    replace hBin := Nat.lt_of_lt_of_le hBin hb.size
    replace Ljn := Lib.hid (Ljn.out.below hb)
    replace hBpjn := hBjn
    replace hBjn := Nat.lt_of_lt_of_le hBjn hb.size
    replace HU := Lib.hid (HU.out.below hb (Nat.le_refl _))
    replace HV := Lib.hid (HV.out.below hb (Nat.le_refl _))
    replace Hin := Lib.hid (Hin.out.below hb (Nat.le_refl _))
    replace Hjn := Lib.hid (Hjn.out.below hb (Nat.le_refl _))
    replace HB := Lib.hid (HB.out.trans (hb.mono HB.out.size))
    clear hb
    go_wp2_with fail
    refine (Within_no _ _ _ _ HS.out _ Hin.out Hjn.out).mono ?_
    rintro e w11 ⟨rfl, hb⟩
    replace Lin := Lib.hid (Lin.out.below hb)
    replace hBpin := hBin
    replace hBin := Nat.lt_of_lt_of_le hBin hb.size
    replace Ljn := Lib.hid (Ljn.out.below hb)
    replace hBpjn := hBjn
    replace hBjn := Nat.lt_of_lt_of_le hBjn hb.size
    replace HU := Lib.hid (HU.out.below hb (Nat.le_refl _))
    replace HV := Lib.hid (HV.out.below hb (Nat.le_refl _))
    replace Hin := Lib.hid (Hin.out.below hb (Nat.le_refl _))
    replace Hjn := Lib.hid (Hjn.out.below hb (Nat.le_refl _))
    replace HB := Lib.hid (HB.out.trans (hb.mono HB.out.size))
    clear hb
    go_wp2_with fail
    refine (RWithin_no _ _ _ _ HS.out _ HU.out HV.out).mono ?_
    rintro e w12 ⟨rfl, hb⟩
    replace Lin := Lib.hid (Lin.out.below hb)
    replace hBpin := hBin
    replace hBin := Nat.lt_of_lt_of_le hBin hb.size
    replace Ljn := Lib.hid (Ljn.out.below hb)
    replace hBpjn := hBjn
    replace hBjn := Nat.lt_of_lt_of_le hBjn hb.size
    replace HU := Lib.hid (HU.out.below hb (Nat.le_refl _))
    replace HV := Lib.hid (HV.out.below hb (Nat.le_refl _))
    replace Hin := Lib.hid (Hin.out.below hb (Nat.le_refl _))
    replace Hjn := Lib.hid (Hjn.out.below hb (Nat.le_refl _))
    replace HB := Lib.hid (HB.out.trans (hb.mono HB.out.size))
    clear hb
    go_wp2_with fail
    refine (OverSpans_any _ _ _ (by omega) _ Lin.out).mono ?_
    rintro e w13 ⟨rfl, hg⟩
    replace Ljn := Lib.hid (lent_kept Ljn.out hg hneinjn)
    replace HB := Lib.hid (HB.out.grown hg HB.out.size (fun k e => by obtain rfl : Bin = k := (by simpa [Value.ownBlock] using e); exact hB0in))
    clear hg
    clear HU
    clear HV
    clear Hin
    clear Hjn
    go_wp2_with fail
    refine (OverSpans_any _ _ _ (by omega) _ Ljn.out).mono ?_
    rintro e w14 ⟨rfl, hg⟩
    replace HB := Lib.hid (HB.out.grown hg HB.out.size (fun k e => by obtain rfl : Bjn = k := (by simpa [Value.ownBlock] using e); exact hB0jn))
    clear hg
    go_wp2_with fail
    refine (Same_eq rfl (Spn.nil _) (Spn.nil _)).mono ?_
    rintro e w15 ⟨rfl, hb⟩
    replace HB := Lib.hid (HB.out.trans (hb.mono HB.out.size))
    clear hb
    go_wp2_with fail
    refine (Same_eq rfl (Spn.nil _) (Spn.nil _)).mono ?_
    rintro e w16 ⟨rfl, hb⟩
    replace HB := Lib.hid (HB.out.trans (hb.mono HB.out.size))
    clear hb
    go_wp2_with fail
    refine (Same_eq rfl (Spn.nil _) (Spn.nil _)).mono ?_
    rintro e w17 ⟨rfl, hb⟩
    replace HB := Lib.hid (HB.out.trans (hb.mono HB.out.size))
    clear hb
    have HTH := Lib.hid (show Three w.heap.size (w17.alloc (.cells #[.slice none 0 0, .slice none 0 0, .slice none 0 0] 22)) (.slice none 0 0) (.slice none 0 0) (.slice none 0 0) [] [] [] from ⟨World.ownsRow_nil _ _ _ _, World.ownsRow_nil _ _ _ _, World.ownsRow_nil _ _ _ _, .inl rfl, .inl rfl, .inl rfl⟩)
    have HBX := Lib.hid (HB.out.alloc HB.out.size (.cells #[.slice none 0 0, .slice none 0 0, .slice none 0 0] 22))
    go_wp2_with fail
    refine (HAP.out w.heap.size _ _ _ _ _ _ _ _ HBX.out.size HB.out.size HTH.out (World.alloc_heap_new _ _) (by simp) (by simp) (by simp)).mono ?_
    rintro e wz ⟨rfl, hb⟩
    have HE := Lib.hid (HBX.out.trans hb)
    clear hb
    go_wp2
    go_ret
    exact ⟨rfl, HE.out⟩

end Go.Proofs.YtanlaejdibikiaaGreat
