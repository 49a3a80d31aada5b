/-
'asks': Has, Days, Before, Nth and Bridge against the reference.
-/
import Derived.Test.YtanlaejdibikiaaGreatMakes
import Derived.Test.YtanlaejdibikiaaGreatRefF
namespace Go.Proofs.YtanlaejdibikiaaGreat
open Go.RowKit Go.Shelf Sp

set_option maxRecDepth 100000 in
set_option maxHeartbeats 16000000 in
theorem asks_any (v : Value) (l : L) (day n : Int) (hd : -9223372036854775808 ≤ day ∧ day ≤ 9223372036854775807) (hn : -9223372036854775808 ≤ n ∧ n ≤ 9223372036854775807) (hl : l.length ≤ 100) (w : World) (h : Spn w v l) :
    Calls Tryz.prog 10 #[v, .int .i64 day, .int .i64 n] w (Says (.bool true) w) := by
  have HB := Lib.hid (Below.refl w.heap.size w)
  have HSZ := Lib.hid (Nat.le_refl w.heap.size)
  have HU := Lib.hid h
  have HD := Lib.hid hd
  have HN := Lib.hid hn
  clear h hd hn
  by_cases hs : IsSet l
  · by_cases h0 : 0 ≤ n
    · have HS := Lib.hid hs
      have H0 := Lib.hid h0
      have HBL := Lib.hid ((bridge_all (n := n) hs (Nat.le_refl _)).1.length)
      clear hs h0
      go_enter Tryz.func10, Tryz.ntmps10
      go_wp2_with fail
      refine (LentSpans_any _ _ (by omega) _ HU.out).mono ?_
      rintro e w1 ⟨⟨vin, rfl, hL⟩, hb⟩
      replace HU := Lib.hid (HU.out.below hb (Nat.le_refl _))
      replace HB := Lib.hid (HB.out.trans (hb.mono HB.out.size))
      obtain ⟨Bin, capin, rfl, hB0in, hccin, hoo⟩ := hL
      have Lin : Hid (Lent w.heap.size w1 _ _) := Lib.hid ⟨Bin, capin, rfl, Nat.le_trans HSZ.out hB0in, hccin, hoo⟩
      have hBin : Bin < w1.heap.size := (hoo.lt Bin rfl).2
      replace hB0in : w.heap.size ≤ Bin := Nat.le_trans HSZ.out hB0in
      replace HSZ := Lib.hid HB.out.size
      have Hin := Lib.hid (Lin.out.spn (by omega))
      clear hoo hb
      go_wp2_with fail
      refine (Nth_yes _ _ _ H0.out HN.out.2 HS.out _ Hin.out).mono ?_
      rintro e w2 ⟨rfl, hb⟩
      replace Lin := Lib.hid (Lin.out.below hb)
      have hBpin := hBin
      replace hBin := Nat.lt_of_lt_of_le hBin hb.size
      replace HU := Lib.hid (HU.out.below hb (Nat.le_refl _))
      replace Hin := Lib.hid (Hin.out.below hb (Nat.le_refl _))
      replace HB := Lib.hid (HB.out.trans (hb.mono HB.out.size))
      clear hb
      obtain ⟨dv, bv, ho⟩ : ∃ (dv : Int) (bv : Bool), nthV (nthO l n) = .tuple #[.int .i64 dv, .bool bv] := by cases nthO l n with | none => exact ⟨0, false, rfl⟩ | some q => exact ⟨q, true, rfl⟩
      have HO := Lib.hid ho
      rw [ho]
      clear ho
      go_wp2_with fail
      refine (RNth_yes _ _ _ H0.out HN.out.2 HS.out _ HU.out).mono ?_
      rintro e w3 ⟨rfl, hb⟩
      replace Lin := Lib.hid (Lin.out.below hb)
      replace hBpin := hBin
      replace hBin := Nat.lt_of_lt_of_le hBin hb.size
      replace HU := Lib.hid (HU.out.below hb (Nat.le_refl _))
      replace Hin := Lib.hid (Hin.out.below hb (Nat.le_refl _))
      replace HB := Lib.hid (HB.out.trans (hb.mono HB.out.size))
      clear hb
      rw [HO.out]
      go_wp2_with fail
      refine (Bridge_ok _ _ _ H0.out HN.out.2 HS.out _ Hin.out).mono ?_
      rintro e w4 ⟨⟨vx, rfl, hown⟩, hb⟩
      replace Lin := Lib.hid (Lin.out.below hb)
      replace hBpin := hBin
      replace hBin := Nat.lt_of_lt_of_le hBin hb.size
      replace HU := Lib.hid (HU.out.below hb (Nat.le_refl _))
      replace Hin := Lib.hid (Hin.out.below hb (Nat.le_refl _))
      replace HB := Lib.hid (HB.out.trans (hb.mono HB.out.size))
      have Ox := Lib.hid hown
      have Nxin := not_lent hown hBpin
      clear hown
      clear hb
      go_wp2_with fail
      refine (RBridge_ok _ _ _ H0.out HN.out.2 HS.out _ HU.out).mono ?_
      rintro e w5 ⟨⟨vy, rfl, hown⟩, hb⟩
      replace Lin := Lib.hid (Lin.out.below hb)
      replace hBpin := hBin
      replace hBin := Nat.lt_of_lt_of_le hBin hb.size
      replace Ox := Lib.hid (Ox.out.kept (grown_of_below hb) (Classical.em _))
      replace HU := Lib.hid (HU.out.below hb (Nat.le_refl _))
      replace Hin := Lib.hid (Hin.out.below hb (Nat.le_refl _))
      replace HB := Lib.hid (HB.out.trans (hb.mono HB.out.size))
      have Oy := Lib.hid hown
      have Nyin := not_lent hown hBpin
      clear hown
      clear hb
      go_wp2_with fail
      refine (Has_yes _ _ _ HS.out _ Hin.out).mono ?_
      rintro e w6 ⟨rfl, hb⟩
      replace Lin := Lib.hid (Lin.out.below hb)
      replace hBpin := hBin
      replace hBin := Nat.lt_of_lt_of_le hBin hb.size
      replace Ox := Lib.hid (Ox.out.kept (grown_of_below hb) (Classical.em _))
      replace Oy := Lib.hid (Oy.out.kept (grown_of_below hb) (Classical.em _))
      replace HU := Lib.hid (HU.out.below hb (Nat.le_refl _))
      replace Hin := Lib.hid (Hin.out.below hb (Nat.le_refl _))
      replace HB := Lib.hid (HB.out.trans (hb.mono HB.out.size))
      clear hb
      go_wp2_with fail
      refine (RHas_yes _ _ _ HS.out _ HU.out).mono ?_
      rintro e w7 ⟨rfl, hb⟩
      replace Lin := Lib.hid (Lin.out.below hb)
      replace hBpin := hBin
      replace hBin := Nat.lt_of_lt_of_le hBin hb.size
      replace Ox := Lib.hid (Ox.out.kept (grown_of_below hb) (Classical.em _))
      replace Oy := Lib.hid (Oy.out.kept (grown_of_below hb) (Classical.em _))
      replace HU := Lib.hid (HU.out.below hb (Nat.le_refl _))
      replace Hin := Lib.hid (Hin.out.below hb (Nat.le_refl _))
      replace HB := Lib.hid (HB.out.trans (hb.mono HB.out.size))
      clear hb
      go_wp2_with fail
      refine (Before_yes _ _ _ HD.out HS.out _ Hin.out).mono ?_
      rintro e w8 ⟨rfl, hb⟩
      replace Lin := Lib.hid (Lin.out.below hb)
      replace hBpin := hBin
      replace hBin := Nat.lt_of_lt_of_le hBin hb.size
      replace Ox := Lib.hid (Ox.out.kept (grown_of_below hb) (Classical.em _))
      replace Oy := Lib.hid (Oy.out.kept (grown_of_below hb) (Classical.em _))
      replace HU := Lib.hid (HU.out.below hb (Nat.le_refl _))
      replace Hin := Lib.hid (Hin.out.below hb (Nat.le_refl _))
      replace HB := Lib.hid (HB.out.trans (hb.mono HB.out.size))
      clear hb
      go_wp2_with fail
      refine (RBefore_yes _ _ _ HS.out _ HU.out).mono ?_
      rintro e w9 ⟨rfl, hb⟩
      replace Lin := Lib.hid (Lin.out.below hb)
      replace hBpin := hBin
      replace hBin := Nat.lt_of_lt_of_le hBin hb.size
      replace Ox := Lib.hid (Ox.out.kept (grown_of_below hb) (Classical.em _))
      replace Oy := Lib.hid (Oy.out.kept (grown_of_below hb) (Classical.em _))
      replace HU := Lib.hid (HU.out.below hb (Nat.le_refl _))
      replace Hin := Lib.hid (Hin.out.below hb (Nat.le_refl _))
      replace HB := Lib.hid (HB.out.trans (hb.mono HB.out.size))
      clear hb
      go_wp2_with fail
      refine (Days_yes _ _ HS.out _ Hin.out).mono ?_
      rintro e w10 ⟨rfl, hb⟩
      replace Lin := Lib.hid (Lin.out.below hb)
      replace hBpin := hBin
      replace hBin := Nat.lt_of_lt_of_le hBin hb.size
      replace Ox := Lib.hid (Ox.out.kept (grown_of_below hb) (Classical.em _))
      replace Oy := Lib.hid (Oy.out.kept (grown_of_below hb) (Classical.em _))
      replace HU := Lib.hid (HU.out.below hb (Nat.le_refl _))
      replace Hin := Lib.hid (Hin.out.below hb (Nat.le_refl _))
      replace HB := Lib.hid (HB.out.trans (hb.mono HB.out.size))
      clear hb
      go_wp2_with fail
      refine (RBefore_yes _ _ _ HS.out _ HU.out).mono ?_
      rintro e w11 ⟨rfl, hb⟩
      replace Lin := Lib.hid (Lin.out.below hb)
      replace hBpin := hBin
      replace hBin := Nat.lt_of_lt_of_le hBin hb.size
      replace Ox := Lib.hid (Ox.out.kept (grown_of_below hb) (Classical.em _))
      replace Oy := Lib.hid (Oy.out.kept (grown_of_below hb) (Classical.em _))
      replace HU := Lib.hid (HU.out.below hb (Nat.le_refl _))
      replace Hin := Lib.hid (Hin.out.below hb (Nat.le_refl _))
      replace HB := Lib.hid (HB.out.trans (hb.mono HB.out.size))
      clear hb
      go_wp2_with fail
      refine (KeptSpans_any _ _ _ _ (by omega) _ Lin.out HU.out).mono ?_
      rintro e w12 ⟨rfl, hb⟩
      replace Lin := Lib.hid (Lin.out.below hb)
      replace hBpin := hBin
      replace hBin := Nat.lt_of_lt_of_le hBin hb.size
      replace Ox := Lib.hid (Ox.out.kept (grown_of_below hb) (Classical.em _))
      replace Oy := Lib.hid (Oy.out.kept (grown_of_below hb) (Classical.em _))
      replace HU := Lib.hid (HU.out.below hb (Nat.le_refl _))
      replace Hin := Lib.hid (Hin.out.below hb (Nat.le_refl _))
      replace HB := Lib.hid (HB.out.trans (hb.mono HB.out.size))
      clear hb
      go_wp2_with fail
      refine (OverSpans_any _ _ _ (by omega) _ Lin.out).mono ?_
      rintro e w13 ⟨rfl, hg⟩
      replace Ox := Lib.hid (Ox.out.kept hg Nxin)
      replace Oy := Lib.hid (Oy.out.kept hg Nyin)
      replace HB := Lib.hid (HB.out.grown hg HB.out.size (fun k e => by obtain rfl : Bin = k := (by simpa [Value.ownBlock] using e); exact hB0in))
      clear hg
      clear HU
      go_wp2_with fail
      refine (Same_eq rfl (Spn.of_owns Ox.out (by have := HBL.out; omega)) (Spn.of_owns Oy.out (by have := HBL.out; omega))).mono ?_
      rintro e w14 ⟨rfl, hb⟩
      replace Ox := Lib.hid (Ox.out.kept (grown_of_below hb) (Classical.em _))
      replace Oy := Lib.hid (Oy.out.kept (grown_of_below hb) (Classical.em _))
      replace HB := Lib.hid (HB.out.trans (hb.mono HB.out.size))
      clear hb
      go_wp2
      go_ret
      exact ⟨rfl, HB.out⟩
    · have HS := Lib.hid hs
      have H0 := Lib.hid (show n < 0 from by omega)
      clear hs h0
      go_enter Tryz.func10, Tryz.ntmps10
      go_wp2_with fail
      refine (LentSpans_any _ _ (by omega) _ HU.out).mono ?_
      rintro e w1 ⟨⟨vin, rfl, hL⟩, hb⟩
      replace HU := Lib.hid (HU.out.below hb (Nat.le_refl _))
      replace HB := Lib.hid (HB.out.trans (hb.mono HB.out.size))
      obtain ⟨Bin, capin, rfl, hB0in, hccin, hoo⟩ := hL
      have Lin : Hid (Lent w.heap.size w1 _ _) := Lib.hid ⟨Bin, capin, rfl, Nat.le_trans HSZ.out hB0in, hccin, hoo⟩
      have hBin : Bin < w1.heap.size := (hoo.lt Bin rfl).2
      replace hB0in : w.heap.size ≤ Bin := Nat.le_trans HSZ.out hB0in
      replace HSZ := Lib.hid HB.out.size
      have Hin := Lib.hid (Lin.out.spn (by omega))
      clear hoo hb
      go_wp2_with fail
      refine (Nth_no _ _ _ (.inr H0.out) _ Hin.out).mono ?_
      rintro e w2 ⟨rfl, hb⟩
      replace Lin := Lib.hid (Lin.out.below hb)
      have hBpin := hBin
      replace hBin := Nat.lt_of_lt_of_le hBin hb.size
      replace HU := Lib.hid (HU.out.below hb (Nat.le_refl _))
      replace Hin := Lib.hid (Hin.out.below hb (Nat.le_refl _))
      replace HB := Lib.hid (HB.out.trans (hb.mono HB.out.size))
      clear hb
      go_wp2_with fail
      refine (RNth_neg _ _ _ H0.out HN.out.1 HS.out _ HU.out).mono ?_
      rintro e w3 ⟨rfl, hb⟩
      replace Lin := Lib.hid (Lin.out.below hb)
      replace hBpin := hBin
      replace hBin := Nat.lt_of_lt_of_le hBin hb.size
      replace HU := Lib.hid (HU.out.below hb (Nat.le_refl _))
      replace Hin := Lib.hid (Hin.out.below hb (Nat.le_refl _))
      replace HB := Lib.hid (HB.out.trans (hb.mono HB.out.size))
      clear hb
      go_wp2_with fail
      refine (Bridge_no _ _ _ (.inr H0.out) _ Hin.out).mono ?_
      rintro e w4 ⟨rfl, hb⟩
      replace Lin := Lib.hid (Lin.out.below hb)
      replace hBpin := hBin
      replace hBin := Nat.lt_of_lt_of_le hBin hb.size
      replace HU := Lib.hid (HU.out.below hb (Nat.le_refl _))
      replace Hin := Lib.hid (Hin.out.below hb (Nat.le_refl _))
      replace HB := Lib.hid (HB.out.trans (hb.mono HB.out.size))
      clear hb
      go_wp2_with fail
      refine (RBridge_no _ _ _ (.inr H0.out) _ HU.out).mono ?_
      rintro e w5 ⟨rfl, hb⟩
      replace Lin := Lib.hid (Lin.out.below hb)
      replace hBpin := hBin
      replace hBin := Nat.lt_of_lt_of_le hBin hb.size
      replace HU := Lib.hid (HU.out.below hb (Nat.le_refl _))
      replace Hin := Lib.hid (Hin.out.below hb (Nat.le_refl _))
      replace HB := Lib.hid (HB.out.trans (hb.mono HB.out.size))
      clear hb
      go_wp2_with fail
      refine (Has_yes _ _ _ HS.out _ Hin.out).mono ?_
      rintro e w6 ⟨rfl, hb⟩
      replace Lin := Lib.hid (Lin.out.below hb)
      replace hBpin := hBin
      replace hBin := Nat.lt_of_lt_of_le hBin hb.size
      replace HU := Lib.hid (HU.out.below hb (Nat.le_refl _))
      replace Hin := Lib.hid (Hin.out.below hb (Nat.le_refl _))
      replace HB := Lib.hid (HB.out.trans (hb.mono HB.out.size))
      clear hb
      go_wp2_with fail
      refine (RHas_yes _ _ _ HS.out _ HU.out).mono ?_
      rintro e w7 ⟨rfl, hb⟩
      replace Lin := Lib.hid (Lin.out.below hb)
      replace hBpin := hBin
      replace hBin := Nat.lt_of_lt_of_le hBin hb.size
      replace HU := Lib.hid (HU.out.below hb (Nat.le_refl _))
      replace Hin := Lib.hid (Hin.out.below hb (Nat.le_refl _))
      replace HB := Lib.hid (HB.out.trans (hb.mono HB.out.size))
      clear hb
      go_wp2_with fail
      refine (Before_yes _ _ _ HD.out HS.out _ Hin.out).mono ?_
      rintro e w8 ⟨rfl, hb⟩
      replace Lin := Lib.hid (Lin.out.below hb)
      replace hBpin := hBin
      replace hBin := Nat.lt_of_lt_of_le hBin hb.size
      replace HU := Lib.hid (HU.out.below hb (Nat.le_refl _))
      replace Hin := Lib.hid (Hin.out.below hb (Nat.le_refl _))
      replace HB := Lib.hid (HB.out.trans (hb.mono HB.out.size))
      clear hb
      go_wp2_with fail
      refine (RBefore_yes _ _ _ HS.out _ HU.out).mono ?_
      rintro e w9 ⟨rfl, hb⟩
      replace Lin := Lib.hid (Lin.out.below hb)
      replace hBpin := hBin
      replace hBin := Nat.lt_of_lt_of_le hBin hb.size
      replace HU := Lib.hid (HU.out.below hb (Nat.le_refl _))
      replace Hin := Lib.hid (Hin.out.below hb (Nat.le_refl _))
      replace HB := Lib.hid (HB.out.trans (hb.mono HB.out.size))
      clear hb
      go_wp2_with fail
      refine (Days_yes _ _ HS.out _ Hin.out).mono ?_
      rintro e w10 ⟨rfl, hb⟩
      replace Lin := Lib.hid (Lin.out.below hb)
      replace hBpin := hBin
      replace hBin := Nat.lt_of_lt_of_le hBin hb.size
      replace HU := Lib.hid (HU.out.below hb (Nat.le_refl _))
      replace Hin := Lib.hid (Hin.out.below hb (Nat.le_refl _))
      replace HB := Lib.hid (HB.out.trans (hb.mono HB.out.size))
      clear hb
      go_wp2_with fail
      refine (RBefore_yes _ _ _ HS.out _ HU.out).mono ?_
      rintro e w11 ⟨rfl, hb⟩
      replace Lin := Lib.hid (Lin.out.below hb)
      replace hBpin := hBin
      replace hBin := Nat.lt_of_lt_of_le hBin hb.size
      replace HU := Lib.hid (HU.out.below hb (Nat.le_refl _))
      replace Hin := Lib.hid (Hin.out.below hb (Nat.le_refl _))
      replace HB := Lib.hid (HB.out.trans (hb.mono HB.out.size))
      clear hb
      go_wp2_with fail
      refine (KeptSpans_any _ _ _ _ (by omega) _ Lin.out HU.out).mono ?_
      rintro e w12 ⟨rfl, hb⟩
      replace Lin := Lib.hid (Lin.out.below hb)
      replace hBpin := hBin
      replace hBin := Nat.lt_of_lt_of_le hBin hb.size
      replace HU := Lib.hid (HU.out.below hb (Nat.le_refl _))
      replace Hin := Lib.hid (Hin.out.below hb (Nat.le_refl _))
      replace HB := Lib.hid (HB.out.trans (hb.mono HB.out.size))
      clear hb
      go_wp2_with fail
      refine (OverSpans_any _ _ _ (by omega) _ Lin.out).mono ?_
      rintro e w13 ⟨rfl, hg⟩
      replace HB := Lib.hid (HB.out.grown hg HB.out.size (fun k e => by obtain rfl : Bin = k := (by simpa [Value.ownBlock] using e); exact hB0in))
      clear hg
      clear HU
      go_wp2_with fail
      refine (Same_eq rfl (Spn.nil _) (Spn.nil _)).mono ?_
      rintro e w14 ⟨rfl, hb⟩
      replace HB := Lib.hid (HB.out.trans (hb.mono HB.out.size))
      clear hb
      go_wp2
      go_ret
      exact ⟨rfl, HB.out⟩
  · have HS := Lib.hid hs
    clear hs
    go_enter Tryz.func10, Tryz.ntmps10
    go_wp2_with fail
    refine (LentSpans_any _ _ (by omega) _ HU.out).mono ?_
    rintro e w1 ⟨⟨vin, rfl, hL⟩, hb⟩
    replace HU := Lib.hid (HU.out.below hb (Nat.le_refl _))
    replace HB := Lib.hid (HB.out.trans (hb.mono HB.out.size))
    obtain ⟨Bin, capin, rfl, hB0in, hccin, hoo⟩ := hL
    have Lin : Hid (Lent w.heap.size w1 _ _) := Lib.hid ⟨Bin, capin, rfl, Nat.le_trans HSZ.out hB0in, hccin, hoo⟩
    have hBin : Bin < w1.heap.size := (hoo.lt Bin rfl).2
    replace hB0in : w.heap.size ≤ Bin := Nat.le_trans HSZ.out hB0in
    replace HSZ := Lib.hid HB.out.size
    have Hin := Lib.hid (Lin.out.spn (by omega))
    clear hoo hb
    go_wp2_with fail
    refine (Nth_no _ _ _ (.inl HS.out) _ Hin.out).mono ?_
    rintro e w2 ⟨rfl, hb⟩
    replace Lin := Lib.hid (Lin.out.below hb)
    have hBpin := hBin
    replace hBin := Nat.lt_of_lt_of_le hBin hb.size
    replace HU := Lib.hid (HU.out.below hb (Nat.le_refl _))
    replace Hin := Lib.hid (Hin.out.below hb (Nat.le_refl _))
    replace HB := Lib.hid (HB.out.trans (hb.mono HB.out.size))
    clear hb
    go_wp2_with fail
    refine (RNth_no _ _ _ HS.out _ HU.out).mono ?_
    rintro e w3 ⟨rfl, hb⟩
    replace Lin := Lib.hid (Lin.out.below hb)
    replace hBpin := hBin
    replace hBin := Nat.lt_of_lt_of_le hBin hb.size
    replace HU := Lib.hid (HU.out.below hb (Nat.le_refl _))
    replace Hin := Lib.hid (Hin.out.below hb (Nat.le_refl _))
    replace HB := Lib.hid (HB.out.trans (hb.mono HB.out.size))
    clear hb
    go_wp2_with fail
    refine (Bridge_no _ _ _ (.inl HS.out) _ Hin.out).mono ?_
    rintro e w4 ⟨rfl, hb⟩
    replace Lin := Lib.hid (Lin.out.below hb)
    replace hBpin := hBin
    replace hBin := Nat.lt_of_lt_of_le hBin hb.size
    replace HU := Lib.hid (HU.out.below hb (Nat.le_refl _))
    replace Hin := Lib.hid (Hin.out.below hb (Nat.le_refl _))
    replace HB := Lib.hid (HB.out.trans (hb.mono HB.out.size))
    clear hb
    go_wp2_with fail
    refine (RBridge_no _ _ _ (.inl HS.out) _ HU.out).mono ?_
    rintro e w5 ⟨rfl, hb⟩
    replace Lin := Lib.hid (Lin.out.below hb)
    replace hBpin := hBin
    replace hBin := Nat.lt_of_lt_of_le hBin hb.size
    replace HU := Lib.hid (HU.out.below hb (Nat.le_refl _))
    replace Hin := Lib.hid (Hin.out.below hb (Nat.le_refl _))
    replace HB := Lib.hid (HB.out.trans (hb.mono HB.out.size))
    clear hb
    go_wp2_with fail
    refine (Has_no _ _ _ HS.out _ Hin.out).mono ?_
    rintro e w6 ⟨rfl, hb⟩
    replace Lin := Lib.hid (Lin.out.below hb)
    replace hBpin := hBin
    replace hBin := Nat.lt_of_lt_of_le hBin hb.size
    replace HU := Lib.hid (HU.out.below hb (Nat.le_refl _))
    replace Hin := Lib.hid (Hin.out.below hb (Nat.le_refl _))
    replace HB := Lib.hid (HB.out.trans (hb.mono HB.out.size))
    clear hb
    go_wp2_with fail
    refine (RHas_no _ _ _ HS.out _ HU.out).mono ?_
    rintro e w7 ⟨rfl, hb⟩
    replace Lin := Lib.hid (Lin.out.below hb)
    replace hBpin := hBin
    replace hBin := Nat.lt_of_lt_of_le hBin hb.size
    replace HU := Lib.hid (HU.out.below hb (Nat.le_refl _))
    replace Hin := Lib.hid (Hin.out.below hb (Nat.le_refl _))
    replace HB := Lib.hid (HB.out.trans (hb.mono HB.out.size))
    clear hb
    go_wp2_with fail
    refine (Before_no _ _ _ HS.out _ Hin.out).mono ?_
    rintro e w8 ⟨rfl, hb⟩
    replace Lin := Lib.hid (Lin.out.below hb)
    replace hBpin := hBin
    replace hBin := Nat.lt_of_lt_of_le hBin hb.size
    replace HU := Lib.hid (HU.out.below hb (Nat.le_refl _))
    replace Hin := Lib.hid (Hin.out.below hb (Nat.le_refl _))
    replace HB := Lib.hid (HB.out.trans (hb.mono HB.out.size))
    clear hb
    go_wp2_with fail
    refine (RBefore_no _ _ _ HS.out _ HU.out).mono ?_
    rintro e w9 ⟨rfl, hb⟩
    replace Lin := Lib.hid (Lin.out.below hb)
    replace hBpin := hBin
    replace hBin := Nat.lt_of_lt_of_le hBin hb.size
    replace HU := Lib.hid (HU.out.below hb (Nat.le_refl _))
    replace Hin := Lib.hid (Hin.out.below hb (Nat.le_refl _))
    replace HB := Lib.hid (HB.out.trans (hb.mono HB.out.size))
    clear hb
    go_wp2_with fail
    refine (Days_no _ _ HS.out _ Hin.out).mono ?_
    rintro e w10 ⟨rfl, hb⟩
    replace Lin := Lib.hid (Lin.out.below hb)
    replace hBpin := hBin
    replace hBin := Nat.lt_of_lt_of_le hBin hb.size
    replace HU := Lib.hid (HU.out.below hb (Nat.le_refl _))
    replace Hin := Lib.hid (Hin.out.below hb (Nat.le_refl _))
    replace HB := Lib.hid (HB.out.trans (hb.mono HB.out.size))
    clear hb
    go_wp2_with fail
    refine (RBefore_no _ _ _ HS.out _ HU.out).mono ?_
    rintro e w11 ⟨rfl, hb⟩
    replace Lin := Lib.hid (Lin.out.below hb)
    replace hBpin := hBin
    replace hBin := Nat.lt_of_lt_of_le hBin hb.size
    replace HU := Lib.hid (HU.out.below hb (Nat.le_refl _))
    replace Hin := Lib.hid (Hin.out.below hb (Nat.le_refl _))
    replace HB := Lib.hid (HB.out.trans (hb.mono HB.out.size))
    clear hb
    go_wp2_with fail
    refine (KeptSpans_any _ _ _ _ (by omega) _ Lin.out HU.out).mono ?_
    rintro e w12 ⟨rfl, hb⟩
    replace Lin := Lib.hid (Lin.out.below hb)
    replace hBpin := hBin
    replace hBin := Nat.lt_of_lt_of_le hBin hb.size
    replace HU := Lib.hid (HU.out.below hb (Nat.le_refl _))
    replace Hin := Lib.hid (Hin.out.below hb (Nat.le_refl _))
    replace HB := Lib.hid (HB.out.trans (hb.mono HB.out.size))
    clear hb
    go_wp2_with fail
    refine (OverSpans_any _ _ _ (by omega) _ Lin.out).mono ?_
    rintro e w13 ⟨rfl, hg⟩
    replace HB := Lib.hid (HB.out.grown hg HB.out.size (fun k e => by obtain rfl : Bin = k := (by simpa [Value.ownBlock] using e); exact hB0in))
    clear hg
    clear HU
    go_wp2_with fail
    refine (Same_eq rfl (Spn.nil _) (Spn.nil _)).mono ?_
    rintro e w14 ⟨rfl, hb⟩
    replace HB := Lib.hid (HB.out.trans (hb.mono HB.out.size))
    clear hb
    go_wp2
    go_ret
    exact ⟨rfl, HB.out⟩

end Go.Proofs.YtanlaejdibikiaaGreat
