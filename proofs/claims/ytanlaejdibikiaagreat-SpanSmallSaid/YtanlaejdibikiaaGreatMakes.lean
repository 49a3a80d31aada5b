/-
'makes': Valid and Make against the reference.
-/
import Derived.Test.YtanlaejdibikiaaGreatRefC
import Derived.Test.YtanlaejdibikiaaGreatRefV
import Derived.Test.YtanlaejdibikiaaGreatOver
import Derived.Test.YtanlaejdibikiaaGreatAwake
namespace Go.Proofs.YtanlaejdibikiaaGreat
open Go.RowKit Go.Shelf Sp

theorem not_lent {W : World} {base B n : Nat} {v : Value} {xs : List Value} (h : W.ownsRow base 31 2 v n xs) (hB : B < base) : v.ownBlock = none ∨ v.ownBlock ≠ some B := by
  by_cases e : v.ownBlock = some B
  · have := (h.lt B e).1; omega
  · exact .inr e

set_option maxHeartbeats 1000000 in
theorem Few_anyM (v : Value) (l : L) (w : World) (h : Spn w v l) : Calls Tryz.prog 5 #[v] w fun e w' => e = .returned (.bool (decide (l.length ≤ 100))) ∧ w = w' := by
  obtain ⟨a, cap, rfl, hlc, ⟨hcm, hcl, hcn⟩, hcs⟩ := h
  by_cases hl : l.length ≤ 100
  · rw [decide_eq_true hl]
    have p : (l.length : Int) ≤ 100 := by omega
    go_enter Tryz.func5, Tryz.ntmps5
    go_wp2
    go_ret
    exact ⟨rfl, rfl⟩
  · rw [decide_eq_false hl]
    have p : ¬ (l.length : Int) ≤ 100 := by omega
    go_enter Tryz.func5, Tryz.ntmps5
    go_wp2
    go_ret
    exact ⟨rfl, rfl⟩

set_option maxRecDepth 100000 in
set_option maxHeartbeats 8000000 in
theorem makes_any (v : Value) (l : L) (hl : l.length ≤ 100) (w : World) (h : Spn w v l) : Calls Tryz.prog 9 #[v] w (Says (.bool true) w) := by
  have HB := Lib.hid (Below.refl w.heap.size w)
  have HSZ := Lib.hid (Nat.le_refl w.heap.size)
  have HU := Lib.hid h
  clear h
  by_cases hok : AllOk l
  · have HOK := Lib.hid hok
    clear hok
    have HMS := Lib.hid ((make_set HOK.out).1.length)
    go_enter Tryz.func9, Tryz.ntmps9
    go_wp2_with fail
    refine (LentSpans_any _ _ (by omega) _ HU.out).mono ?_
    rintro e w1 ⟨⟨vin, rfl, hL⟩, hb⟩
    replace HU := Lib.hid (HU.out.below hb (Nat.le_refl _))
    replace HB := Lib.hid (HB.out.trans (hb.mono HB.out.size))
    obtain ⟨Bin, capin, rfl, hB0in, hccin, hoo⟩ := hL
    have Lin : Hid (Lent w.heap.size w1 _ _) := Lib.hid ⟨Bin, capin, rfl, Nat.le_trans HSZ.out hB0in, hccin, hoo⟩
    have hBin : Bin < w1.heap.size := (hoo.lt Bin rfl).2
    replace hB0in : w.heap.size ≤ Bin := Nat.le_trans HSZ.out hB0in
    replace HSZ := Lib.hid HB.out.size
    have Hin := Lib.hid (Lin.out.spn (by omega))
    clear hoo hb
    go_wp2_with fail
    refine (Make_ok _ _ HOK.out _ Hin.out).mono ?_
    rintro e w2 ⟨⟨va, rfl, hown⟩, hb⟩
    replace Lin := Lib.hid (Lin.out.below hb)
    have hBpin := hBin
    replace hBin := Nat.lt_of_lt_of_le hBin hb.size
    replace HU := Lib.hid (HU.out.below hb (Nat.le_refl _))
    replace Hin := Lib.hid (Hin.out.below hb (Nat.le_refl _))
    replace HB := Lib.hid (HB.out.trans (hb.mono HB.out.size))
    have Oa := Lib.hid hown
    have Nain := not_lent hown hBpin
    clear hown
    clear hb
    go_wp2_with fail
    refine (RMake_ok _ _ HOK.out _ HU.out).mono ?_
    rintro e w3 ⟨⟨vb, rfl, hown⟩, hb⟩
    replace Lin := Lib.hid (Lin.out.below hb)
    replace hBpin := hBin
    replace hBin := Nat.lt_of_lt_of_le hBin hb.size
    replace Oa := Lib.hid (Oa.out.kept (grown_of_below hb) (Classical.em _))
    replace HU := Lib.hid (HU.out.below hb (Nat.le_refl _))
    replace Hin := Lib.hid (Hin.out.below hb (Nat.le_refl _))
    replace HB := Lib.hid (HB.out.trans (hb.mono HB.out.size))
    have Ob := Lib.hid hown
    have Nbin := not_lent hown hBpin
    clear hown
    clear hb
    go_wp2_with fail
    refine (Same_eq rfl (Spn.of_owns Oa.out (by have := HMS.out; omega)) (Spn.of_owns Ob.out (by have := HMS.out; omega))).mono ?_
    rintro e w4 ⟨rfl, hb⟩
    replace Lin := Lib.hid (Lin.out.below hb)
    replace hBpin := hBin
    replace hBin := Nat.lt_of_lt_of_le hBin hb.size
    replace Oa := Lib.hid (Oa.out.kept (grown_of_below hb) (Classical.em _))
    replace Ob := Lib.hid (Ob.out.kept (grown_of_below hb) (Classical.em _))
    replace HU := Lib.hid (HU.out.below hb (Nat.le_refl _))
    replace Hin := Lib.hid (Hin.out.below hb (Nat.le_refl _))
    replace HB := Lib.hid (HB.out.trans (hb.mono HB.out.size))
    clear hb
    go_wp2_with fail
    refine (Valid_any _ _ _ Hin.out).mono ?_
    rintro e w5 ⟨rfl, hb⟩
    replace Lin := Lib.hid (Lin.out.below hb)
    replace hBpin := hBin
    replace hBin := Nat.lt_of_lt_of_le hBin hb.size
    replace Oa := Lib.hid (Oa.out.kept (grown_of_below hb) (Classical.em _))
    replace Ob := Lib.hid (Ob.out.kept (grown_of_below hb) (Classical.em _))
    replace HU := Lib.hid (HU.out.below hb (Nat.le_refl _))
    replace Hin := Lib.hid (Hin.out.below hb (Nat.le_refl _))
    replace HB := Lib.hid (HB.out.trans (hb.mono HB.out.size))
    clear hb
    go_wp2_with fail
    refine (RValid_any _ _ _ HU.out).mono ?_
    rintro e w6 ⟨rfl, hb⟩
    replace Lin := Lib.hid (Lin.out.below hb)
    replace hBpin := hBin
    replace hBin := Nat.lt_of_lt_of_le hBin hb.size
    replace Oa := Lib.hid (Oa.out.kept (grown_of_below hb) (Classical.em _))
    replace Ob := Lib.hid (Ob.out.kept (grown_of_below hb) (Classical.em _))
    replace HU := Lib.hid (HU.out.below hb (Nat.le_refl _))
    replace Hin := Lib.hid (Hin.out.below hb (Nat.le_refl _))
    replace HB := Lib.hid (HB.out.trans (hb.mono HB.out.size))
    clear hb
    go_wp2_with fail
    refine (KeptSpans_any _ _ _ _ (by omega) _ Lin.out HU.out).mono ?_
    rintro e w7 ⟨rfl, hb⟩
    replace Lin := Lib.hid (Lin.out.below hb)
    replace hBpin := hBin
    replace hBin := Nat.lt_of_lt_of_le hBin hb.size
    replace Oa := Lib.hid (Oa.out.kept (grown_of_below hb) (Classical.em _))
    replace Ob := Lib.hid (Ob.out.kept (grown_of_below hb) (Classical.em _))
    replace HU := Lib.hid (HU.out.below hb (Nat.le_refl _))
    replace Hin := Lib.hid (Hin.out.below hb (Nat.le_refl _))
    replace HB := Lib.hid (HB.out.trans (hb.mono HB.out.size))
    clear hb
    go_wp2_with fail
    refine (OverSpans_any _ _ _ (by omega) _ Lin.out).mono ?_
    rintro e w8 ⟨rfl, hg⟩
    replace Oa := Lib.hid (Oa.out.kept hg Nain)
    replace Ob := Lib.hid (Ob.out.kept hg Nbin)
    replace HB := Lib.hid (HB.out.grown hg HB.out.size (fun k e => by obtain rfl : Bin = k := (by simpa [Value.ownBlock] using e); exact hB0in))
    clear hg
    clear HU
    go_wp2_with fail
    refine (Same_eq rfl (Spn.of_owns Oa.out (by have := HMS.out; omega)) (Spn.of_owns Ob.out (by have := HMS.out; omega))).mono ?_
    rintro e w9 ⟨rfl, hb⟩
    replace Oa := Lib.hid (Oa.out.kept (grown_of_below hb) (Classical.em _))
    replace Ob := Lib.hid (Ob.out.kept (grown_of_below hb) (Classical.em _))
    replace HB := Lib.hid (HB.out.trans (hb.mono HB.out.size))
    clear hb
    go_wp2
    go_ret
    exact ⟨rfl, HB.out⟩

  · have HOK := Lib.hid hok
    clear hok
    go_enter Tryz.func9, Tryz.ntmps9
    go_wp2_with fail
    refine (LentSpans_any _ _ (by omega) _ HU.out).mono ?_
    rintro e w1 ⟨⟨vin, rfl, hL⟩, hb⟩
    replace HU := Lib.hid (HU.out.below hb (Nat.le_refl _))
    replace HB := Lib.hid (HB.out.trans (hb.mono HB.out.size))
    obtain ⟨Bin, capin, rfl, hB0in, hccin, hoo⟩ := hL
    have Lin : Hid (Lent w.heap.size w1 _ _) := Lib.hid ⟨Bin, capin, rfl, Nat.le_trans HSZ.out hB0in, hccin, hoo⟩
    have hBin : Bin < w1.heap.size := (hoo.lt Bin rfl).2
    replace hB0in : w.heap.size ≤ Bin := Nat.le_trans HSZ.out hB0in
    replace HSZ := Lib.hid HB.out.size
    have Hin := Lib.hid (Lin.out.spn (by omega))
    clear hoo hb
    go_wp2_with fail
    refine (Make_no _ _ HOK.out _ Hin.out).mono ?_
    rintro e w2 ⟨rfl, hb⟩
    replace Lin := Lib.hid (Lin.out.below hb)
    have hBpin := hBin
    replace hBin := Nat.lt_of_lt_of_le hBin hb.size
    replace HU := Lib.hid (HU.out.below hb (Nat.le_refl _))
    replace Hin := Lib.hid (Hin.out.below hb (Nat.le_refl _))
    replace HB := Lib.hid (HB.out.trans (hb.mono HB.out.size))
    clear hb
    go_wp2_with fail
    refine (RMake_no _ _ HOK.out _ HU.out).mono ?_
    rintro e w3 ⟨rfl, hb⟩
    replace Lin := Lib.hid (Lin.out.below hb)
    replace hBpin := hBin
    replace hBin := Nat.lt_of_lt_of_le hBin hb.size
    replace HU := Lib.hid (HU.out.below hb (Nat.le_refl _))
    replace Hin := Lib.hid (Hin.out.below hb (Nat.le_refl _))
    replace HB := Lib.hid (HB.out.trans (hb.mono HB.out.size))
    clear hb
    go_wp2_with fail
    refine (Same_eq rfl (Spn.nil _) (Spn.nil _)).mono ?_
    rintro e w4 ⟨rfl, hb⟩
    replace Lin := Lib.hid (Lin.out.below hb)
    replace hBpin := hBin
    replace hBin := Nat.lt_of_lt_of_le hBin hb.size
    replace HU := Lib.hid (HU.out.below hb (Nat.le_refl _))
    replace Hin := Lib.hid (Hin.out.below hb (Nat.le_refl _))
    replace HB := Lib.hid (HB.out.trans (hb.mono HB.out.size))
    clear hb
    go_wp2_with fail
    refine (Valid_any _ _ _ Hin.out).mono ?_
    rintro e w5 ⟨rfl, hb⟩
    replace Lin := Lib.hid (Lin.out.below hb)
    replace hBpin := hBin
    replace hBin := Nat.lt_of_lt_of_le hBin hb.size
    replace HU := Lib.hid (HU.out.below hb (Nat.le_refl _))
    replace Hin := Lib.hid (Hin.out.below hb (Nat.le_refl _))
    replace HB := Lib.hid (HB.out.trans (hb.mono HB.out.size))
    clear hb
    go_wp2_with fail
    refine (RValid_any _ _ _ HU.out).mono ?_
    rintro e w6 ⟨rfl, hb⟩
    replace Lin := Lib.hid (Lin.out.below hb)
    replace hBpin := hBin
    replace hBin := Nat.lt_of_lt_of_le hBin hb.size
    replace HU := Lib.hid (HU.out.below hb (Nat.le_refl _))
    replace Hin := Lib.hid (Hin.out.below hb (Nat.le_refl _))
    replace HB := Lib.hid (HB.out.trans (hb.mono HB.out.size))
    clear hb
    go_wp2_with fail
    refine (KeptSpans_any _ _ _ _ (by omega) _ Lin.out HU.out).mono ?_
    rintro e w7 ⟨rfl, hb⟩
    replace Lin := Lib.hid (Lin.out.below hb)
    replace hBpin := hBin
    replace hBin := Nat.lt_of_lt_of_le hBin hb.size
    replace HU := Lib.hid (HU.out.below hb (Nat.le_refl _))
    replace Hin := Lib.hid (Hin.out.below hb (Nat.le_refl _))
    replace HB := Lib.hid (HB.out.trans (hb.mono HB.out.size))
    clear hb
    go_wp2_with fail
    refine (OverSpans_any _ _ _ (by omega) _ Lin.out).mono ?_
    rintro e w8 ⟨rfl, hg⟩
    replace HB := Lib.hid (HB.out.grown hg HB.out.size (fun k e => by obtain rfl : Bin = k := (by simpa [Value.ownBlock] using e); exact hB0in))
    clear hg
    clear HU
    go_wp2_with fail
    refine (Same_eq rfl (Spn.nil _) (Spn.nil _)).mono ?_
    rintro e w9 ⟨rfl, hb⟩
    replace HB := Lib.hid (HB.out.trans (hb.mono HB.out.size))
    clear hb
    go_wp2
    go_ret
    exact ⟨rfl, HB.out⟩

end Go.Proofs.YtanlaejdibikiaaGreat
