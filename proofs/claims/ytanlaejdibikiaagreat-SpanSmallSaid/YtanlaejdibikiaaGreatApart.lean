/-
The bag is apart, given flatSpans.
-/
import Derived.Test.YtanlaejdibikiaaGreatBag
namespace Go.Proofs.YtanlaejdibikiaaGreat
open Go.RowKit Go.Shelf Sp

set_option maxRecDepth 100000 in
set_option maxHeartbeats 16000000 in
theorem apart_any (HFP : FlatsThree) (N B : Nat) (x v1 v2 v3 : Value) (l1 l2 l3 : L) (w : World) (hx : Bag w B x) (hN : N ≤ w.heap.size) (ht : Three N w v1 v2 v3 l1 l2 l3) (ho : w.ownsRow N 22 1 x 3 [v1, v2, v3]) (h1 : l1.length ≤ 1000) (h2 : l2.length ≤ 1000) (h3 : l3.length ≤ 1000) :
    Calls Tryz.prog 46 #[.pointer (some ⟨B, 0, none⟩)] w fun e w' => e = .returned (.bool true) ∧ Below N w w' := by
  replace HFP := Lib.hid HFP
  have HX := Lib.hid hx
  have HT := Lib.hid ht
  have HO := Lib.hid ho
  have HB := Lib.hid (Below.refl N w)
  have HZ := Lib.hid hN
  have H1 := Lib.hid h1
  have H2 := Lib.hid h2
  have H3 := Lib.hid h3
  clear hx ht ho h1 h2 h3 hN
  have c0 := HX.out.cell 0 (by omega) (by omega)
  go_enter Tryz.func46, Tryz.ntmps46
  go_wp2_with fail
  refine (flatLimbs_nil _).mono ?_
  rintro e w1 ⟨rfl, hb⟩
  replace HT := Lib.hid (three_on HT.out hb)
  replace HO := Lib.hid (HO.out.kept (grown_of_below hb) (Classical.em _))
  replace HX := Lib.hid (HX.out.on hb)
  replace HB := Lib.hid (HB.out.trans (hb.mono HZ.out))
  replace HZ := Lib.hid (Nat.le_trans HZ.out hb.size)
  clear hb c0
  have c1 := HX.out.cell 1 (by omega) (by omega)
  go_wp2_with fail
  refine (flatInts_nil _).mono ?_
  rintro e w2 ⟨rfl, hb⟩
  replace HT := Lib.hid (three_on HT.out hb)
  replace HO := Lib.hid (HO.out.kept (grown_of_below hb) (Classical.em _))
  replace HX := Lib.hid (HX.out.on hb)
  replace HB := Lib.hid (HB.out.trans (hb.mono HZ.out))
  replace HZ := Lib.hid (Nat.le_trans HZ.out hb.size)
  clear hb c1
  have c2 := HX.out.cell 2 (by omega) (by omega)
  go_wp2_with fail
  refine (flatTexts_nil _).mono ?_
  rintro e w3 ⟨rfl, hb⟩
  replace HT := Lib.hid (three_on HT.out hb)
  replace HO := Lib.hid (HO.out.kept (grown_of_below hb) (Classical.em _))
  replace HX := Lib.hid (HX.out.on hb)
  replace HB := Lib.hid (HB.out.trans (hb.mono HZ.out))
  replace HZ := Lib.hid (Nat.le_trans HZ.out hb.size)
  clear hb c2
  have c3 := HX.out.cell 3 (by omega) (by omega)
  go_wp2_with fail
  refine (flatBytes_nil _).mono ?_
  rintro e w4 ⟨rfl, hb⟩
  replace HT := Lib.hid (three_on HT.out hb)
  replace HO := Lib.hid (HO.out.kept (grown_of_below hb) (Classical.em _))
  replace HX := Lib.hid (HX.out.on hb)
  replace HB := Lib.hid (HB.out.trans (hb.mono HZ.out))
  replace HZ := Lib.hid (Nat.le_trans HZ.out hb.size)
  clear hb c3
  have c4 := HX.out.cell 4 (by omega) (by omega)
  go_wp2_with fail
  refine (flatWholes_nil _).mono ?_
  rintro e w5 ⟨rfl, hb⟩
  replace HT := Lib.hid (three_on HT.out hb)
  replace HO := Lib.hid (HO.out.kept (grown_of_below hb) (Classical.em _))
  replace HX := Lib.hid (HX.out.on hb)
  replace HB := Lib.hid (HB.out.trans (hb.mono HZ.out))
  replace HZ := Lib.hid (Nat.le_trans HZ.out hb.size)
  clear hb c4
  have c5 := HX.out.cell 5 (by omega) (by omega)
  go_wp2_with fail
  refine (flatFracs_nil _).mono ?_
  rintro e w6 ⟨rfl, hb⟩
  replace HT := Lib.hid (three_on HT.out hb)
  replace HO := Lib.hid (HO.out.kept (grown_of_below hb) (Classical.em _))
  replace HX := Lib.hid (HX.out.on hb)
  replace HB := Lib.hid (HB.out.trans (hb.mono HZ.out))
  replace HZ := Lib.hid (Nat.le_trans HZ.out hb.size)
  clear hb c5
  have c6 := HX.out.cell 6 (by omega) (by omega)
  go_wp2_with fail
  refine (flatValues_nil _).mono ?_
  rintro e w7 ⟨rfl, hb⟩
  replace HT := Lib.hid (three_on HT.out hb)
  replace HO := Lib.hid (HO.out.kept (grown_of_below hb) (Classical.em _))
  replace HX := Lib.hid (HX.out.on hb)
  replace HB := Lib.hid (HB.out.trans (hb.mono HZ.out))
  replace HZ := Lib.hid (Nat.le_trans HZ.out hb.size)
  clear hb c6
  have c7 := HX.out.seven
  go_wp2_with fail
  have n1 := HX.out.ne HT.out.o1 (by decide)
  have n2 := HX.out.ne HT.out.o2 (by decide)
  have n3 := HX.out.ne HT.out.o3 (by decide)
  refine (HFP.out N _ _ _ _ _ _ _ _ HZ.out HT.out HO.out H1.out H2.out H3.out).mono ?_
  rintro e w8 ⟨rfl, hb, hsz, hfr⟩
  replace HX : Hid (Bag w8 B x) := Lib.hid ((hfr B HX.out.lt n1 n2 n3).trans HX.out)
  replace HB := Lib.hid (HB.out.trans hb)
  replace HZ := Lib.hid (Nat.le_trans HZ.out hsz)
  clear hb hsz hfr n1 n2 n3 HT HO H1 H2 H3 c7
  have c8 := HX.out.cell 8 (by omega) (by omega)
  go_wp2_with fail
  refine (flatSteps_nil _).mono ?_
  rintro e w9 ⟨rfl, hb⟩
  replace HX := Lib.hid (HX.out.on hb)
  replace HB := Lib.hid (HB.out.trans (hb.mono HZ.out))
  replace HZ := Lib.hid (Nat.le_trans HZ.out hb.size)
  clear hb c8
  have c9 := HX.out.cell 9 (by omega) (by omega)
  go_wp2_with fail
  refine (flatFacts_nil _).mono ?_
  rintro e w10 ⟨rfl, hb⟩
  replace HX := Lib.hid (HX.out.on hb)
  replace HB := Lib.hid (HB.out.trans (hb.mono HZ.out))
  replace HZ := Lib.hid (Nat.le_trans HZ.out hb.size)
  clear hb c9
  have c10 := HX.out.cell 10 (by omega) (by omega)
  go_wp2_with fail
  refine (flatRows_nil _).mono ?_
  rintro e w11 ⟨rfl, hb⟩
  replace HX := Lib.hid (HX.out.on hb)
  replace HB := Lib.hid (HB.out.trans (hb.mono HZ.out))
  replace HZ := Lib.hid (Nat.le_trans HZ.out hb.size)
  clear hb c10
  have c11 := HX.out.cell 11 (by omega) (by omega)
  go_wp2_with fail
  refine (flatTables_nil _).mono ?_
  rintro e w12 ⟨rfl, hb⟩
  replace HX := Lib.hid (HX.out.on hb)
  replace HB := Lib.hid (HB.out.trans (hb.mono HZ.out))
  replace HZ := Lib.hid (Nat.le_trans HZ.out hb.size)
  clear hb c11
  have c12 := HX.out.cell 12 (by omega) (by omega)
  go_wp2_with fail
  refine (flatExprs_nil _).mono ?_
  rintro e w13 ⟨rfl, hb⟩
  replace HX := Lib.hid (HX.out.on hb)
  replace HB := Lib.hid (HB.out.trans (hb.mono HZ.out))
  replace HZ := Lib.hid (Nat.le_trans HZ.out hb.size)
  clear hb c12
  have c13 := HX.out.cell 13 (by omega) (by omega)
  go_wp2_with fail
  refine (flatClauses_nil _).mono ?_
  rintro e w14 ⟨rfl, hb⟩
  replace HX := Lib.hid (HX.out.on hb)
  replace HB := Lib.hid (HB.out.trans (hb.mono HZ.out))
  replace HZ := Lib.hid (Nat.le_trans HZ.out hb.size)
  clear hb c13
  have c14 := HX.out.cell 14 (by omega) (by omega)
  go_wp2_with fail
  refine (flatDefs_nil _).mono ?_
  rintro e w15 ⟨rfl, hb⟩
  replace HX := Lib.hid (HX.out.on hb)
  replace HB := Lib.hid (HB.out.trans (hb.mono HZ.out))
  replace HZ := Lib.hid (Nat.le_trans HZ.out hb.size)
  clear hb c14
  have c15 := HX.out.cell 15 (by omega) (by omega)
  go_wp2_with fail
  refine (flatPlans_nil _).mono ?_
  rintro e w16 ⟨rfl, hb⟩
  replace HX := Lib.hid (HX.out.on hb)
  replace HB := Lib.hid (HB.out.trans (hb.mono HZ.out))
  replace HZ := Lib.hid (Nat.le_trans HZ.out hb.size)
  clear hb c15
  have c16 := HX.out.cell 16 (by omega) (by omega)
  go_wp2_with fail
  refine (flatPostings_nil _).mono ?_
  rintro e w17 ⟨rfl, hb⟩
  replace HX := Lib.hid (HX.out.on hb)
  replace HB := Lib.hid (HB.out.trans (hb.mono HZ.out))
  replace HZ := Lib.hid (Nat.le_trans HZ.out hb.size)
  clear hb c16
  have c17 := HX.out.cell 17 (by omega) (by omega)
  go_wp2_with fail
  refine (flatOrders_nil _).mono ?_
  rintro e w18 ⟨rfl, hb⟩
  replace HX := Lib.hid (HX.out.on hb)
  replace HB := Lib.hid (HB.out.trans (hb.mono HZ.out))
  replace HZ := Lib.hid (Nat.le_trans HZ.out hb.size)
  clear hb c17
  have c18 := HX.out.cell 18 (by omega) (by omega)
  go_wp2_with fail
  refine (flatEvents_nil _).mono ?_
  rintro e w19 ⟨rfl, hb⟩
  replace HX := Lib.hid (HX.out.on hb)
  replace HB := Lib.hid (HB.out.trans (hb.mono HZ.out))
  replace HZ := Lib.hid (Nat.le_trans HZ.out hb.size)
  clear hb c18
  have c19 := HX.out.cell 19 (by omega) (by omega)
  go_wp2_with fail
  refine (flatFilings_nil _).mono ?_
  rintro e w20 ⟨rfl, hb⟩
  replace HX := Lib.hid (HX.out.on hb)
  replace HB := Lib.hid (HB.out.trans (hb.mono HZ.out))
  replace HZ := Lib.hid (Nat.le_trans HZ.out hb.size)
  clear hb c19
  have c20 := HX.out.cell 20 (by omega) (by omega)
  go_wp2_with fail
  refine (flatCases_nil _).mono ?_
  rintro e w21 ⟨rfl, hb⟩
  replace HX := Lib.hid (HX.out.on hb)
  replace HB := Lib.hid (HB.out.trans (hb.mono HZ.out))
  replace HZ := Lib.hid (Nat.le_trans HZ.out hb.size)
  clear hb c20
  have c21 := HX.out.cell 21 (by omega) (by omega)
  go_wp2_with fail
  refine (flatChanges_nil _).mono ?_
  rintro e w22 ⟨rfl, hb⟩
  replace HX := Lib.hid (HX.out.on hb)
  replace HB := Lib.hid (HB.out.trans (hb.mono HZ.out))
  replace HZ := Lib.hid (Nat.le_trans HZ.out hb.size)
  clear hb c21
  have c22 := HX.out.cell 22 (by omega) (by omega)
  go_wp2_with fail
  refine (flatDeltas_nil _).mono ?_
  rintro e w23 ⟨rfl, hb⟩
  replace HX := Lib.hid (HX.out.on hb)
  replace HB := Lib.hid (HB.out.trans (hb.mono HZ.out))
  replace HZ := Lib.hid (Nat.le_trans HZ.out hb.size)
  clear hb c22
  go_wp2
  go_ret
  exact ⟨rfl, HB.out⟩

end Go.Proofs.YtanlaejdibikiaaGreat
