/-
'SpanLaws': the walk.
-/
import Derived.Test.YtppihnliimbakaaLawsA
import Derived.Lib.MinMax
namespace Go.Proofs.Ytppihnliimbakaa
open Go.RowKit Go.Shelf Sp


set_option maxRecDepth 100000 in
set_option maxHeartbeats 80000000 in
theorem SpanLaws_walk (s t u : Value) (m n p : List Nat) (w : World) (hm : Lm m) (h : Lim w s m) (hn : Lm n) (g : Lim w t n) (hp : Lm p) (f : Lim w u p) :
    Calls Try.prog 7 #[s, t, u] w (Says (.bool true) w) := by
  have HB := Lib.hid (Below.refl w.heap.size w)
  have HM := Lib.hid hm
  have HN := Lib.hid hn
  have HP := Lib.hid hp
  have HI := Lib.hid h
  have HJ := Lib.hid g
  have HK := Lib.hid f
  obtain ⟨aa, cc, rfl, -⟩ := h
  obtain ⟨bb, dd, rfl, -⟩ := g
  obtain ⟨ee, ff, rfl, -⟩ := f
  obtain ⟨i0, hi, hz0, hz1, hz2⟩ := info_parts Try.infoS
  clear hm hn hp
  go_enter Try.func7, Try.ntmps7
  go_wp2_with fail
  refine (awake_any _).mono ?_
  rintro e w1 ⟨rfl, hb⟩
  replace HB := Lib.hid (HB.out.trans (hb.mono HB.out.size))
  clear hb
  go_wp2_with fail
  refine (Built_any _ _ HM.out w1 (HI.out.below HB.out (Nat.le_refl _))).mono ?_
  rintro e w2 ⟨⟨va, la, rfl, hset, h60, hown⟩, hb⟩
  replace HB := Lib.hid (HB.out.trans (hb.mono HB.out.size))
  have HSa := Lib.hid hset
  have Ha := Lib.hid (Spn.of_owns hown (by omega))
  have HLa := Lib.hid h60
  clear hset hown h60
  clear hb
  obtain ⟨aa1, ca, rfl⟩ := spn_slice Ha.out
  go_wp2_with fail
  refine (Built_any _ _ HN.out w2 (HJ.out.below HB.out (Nat.le_refl _))).mono ?_
  rintro e w3 ⟨⟨vb, lb, rfl, hset, h60, hown⟩, hb⟩
  replace Ha := Lib.hid (Ha.out.below hb (Nat.le_refl _))
  replace HB := Lib.hid (HB.out.trans (hb.mono HB.out.size))
  have HSb := Lib.hid hset
  have Hb := Lib.hid (Spn.of_owns hown (by omega))
  have HLb := Lib.hid h60
  clear hset hown h60
  clear hb
  obtain ⟨ab, cb, rfl⟩ := spn_slice Hb.out
  go_wp2_with fail
  refine (Built_any _ _ HP.out w3 (HK.out.below HB.out (Nat.le_refl _))).mono ?_
  rintro e w4 ⟨⟨vc, lc, rfl, hset, h60, hown⟩, hb⟩
  replace Ha := Lib.hid (Ha.out.below hb (Nat.le_refl _))
  replace Hb := Lib.hid (Hb.out.below hb (Nat.le_refl _))
  replace HB := Lib.hid (HB.out.trans (hb.mono HB.out.size))
  have HSc := Lib.hid hset
  have Hc := Lib.hid (Spn.of_owns hown (by omega))
  have HLc := Lib.hid h60
  clear hset hown h60
  clear hb
  obtain ⟨ac, cc, rfl⟩ := spn_slice Hc.out
  have XE := Lib.hid (Boxed.new w4 28 (.int .i64 0))
  have hba := (Below.refl w4.heap.size w4).alloc (Nat.le_refl _) (.cells #[.int .i64 0] 28)
  have ha60 := HLa.out
  have hb60 := HLb.out
  have HBa := Lib.hid hba
  clear hba
  go_wp2_with fail
  obtain ⟨w5, hw5⟩ : ∃ W, w4.alloc (.cells #[.int .i64 0] 28) = W := ⟨_, rfl⟩
  obtain ⟨N, hN⟩ : ∃ N, w4.heap.size = N := ⟨_, rfl⟩
  rw [hw5] at XE HBa ⊢
  have hba := HBa.out
  replace Ha := Lib.hid (Ha.out.below hba (Nat.le_refl _))
  replace Hb := Lib.hid (Hb.out.below hba (Nat.le_refl _))
  replace Hc := Lib.hid (Hc.out.below hba (Nat.le_refl _))
  replace HB := Lib.hid (HB.out.trans (hba.mono HB.out.size))
  rw [hN] at XE ⊢
  clear hba HBa hw5 hN
  obtain ⟨mx, hmx⟩ : ∃ z : Nat, z = max la.length lb.length := ⟨_, rfl⟩
  have hmi : max (la.length : Int) (lb.length : Int) = (mx : Int) := by rw [hmx]; omega
  have hm60 : mx ≤ 60 := by omega
  have hma : la.length ≤ mx := by omega
  have hmb : lb.length ≤ mx := by omega
  have hmm : mx = la.length ∨ mx = lb.length := by omega
  clear hmx
  rw [hmi]
  clear hmi
  go_loopw [16, 38] (fun lk i wr => ∃ (j : Nat) (M : L), j ≤ mx ∧ i = .int .i64 j ∧ Hid (Mixed w5.heap.size wr lk M) ∧ Hid (Mx la lb j 0 M) ∧ Below w5.heap.size w5 wr) (fun _ i _ => mx - (intOf i).toNat)
  case atStart => exact ⟨0, [], by omega, rfl, Lib.hid (World.ownsRow_nil _ _ _ _), Lib.hid (Mx.start la lb), Below.refl _ _⟩
  case round =>
    obtain ⟨j, M, hj, rfl, HO, HMX, hbw⟩ := hrel
    by_cases hjm : j < mx
    · have j1 : (j : Int) < (mx : Int) := by omega
      have HT0 := Lib.hid (show Tx (wr.alloc (.cells #[.slice ab lb.length cb, .slice aa1 la.length ca, .slice ab lb.length cb] 22)) wr.heap.size (.slice ab lb.length cb) (.slice aa1 la.length ca) (.slice ab lb.length cb) from World.alloc_heap_new wr _)
      have HOa := Lib.hid (HO.out.alloc (.cells #[.slice ab lb.length cb, .slice aa1 la.length ca, .slice ab lb.length cb] 22))
      have HBw := Lib.hid (hbw.alloc hbw.size (.cells #[.slice ab lb.length cb, .slice aa1 la.length ca, .slice ab lb.length cb] 22))
      clear HO hbw
      obtain ⟨T, hT⟩ : ∃ T, wr.heap.size = T := ⟨_, rfl⟩
      rw [hT] at HT0
      go_wp2_with fail
      try rw [hT]
      clear hT
      go_loopw [16, 46] (fun lk i wx => ∃ (q : Nat) (E : L), q ≤ 3 ∧ i = .int .i64 q ∧ Hid (Mixed w5.heap.size wx lk E) ∧ Hid (Mx la lb j q E) ∧ Hid (Tx wx T (.slice ab lb.length cb) (.slice aa1 la.length ca) (.slice ab lb.length cb)) ∧ Below w5.heap.size w5 wx) (fun _ i _ => 3 - (intOf i).toNat)
      case atStart => exact ⟨0, M, by omega, rfl, HOa, HMX, HT0, HBw.out⟩
      case round =>
        clear HOa HMX HT0 HBw
        obtain ⟨q, E, hq, rfl, HO, HE, HT, hbx⟩ := hrel
        have hq4 : q = 0 ∨ q = 1 ∨ q = 2 ∨ q = 3 := by omega
        rcases hq4 with hq0 | hq0 | hq0 | hq0
        · have qn : q = 0 := hq0
          subst qn
          clear hq
          obtain ⟨y1, y2, y3⟩ := HT.out.cells
          by_cases hil : j < lb.length
          · obtain ⟨bb', ob, rfl, hbb, hc⟩ := Hb.out.block (by intro e; rw [e] at hil; simp at hil)
            have c1 := (hbx.cell (p := ⟨bb', ob + (lb.length - 1 - j) * 2, none⟩) hbb).trans (hc (lb.length - 1 - j) (by omega)).1
            have c2 := (hbx.cell (p := ⟨bb', ob + (lb.length - 1 - j) * 2 + 1, none⟩) hbb).trans (hc (lb.length - 1 - j) (by omega)).2
            have HPUT := Lib.hid (HE.out.putB (.inl rfl) hil)
            rw [show lb[lb.length - 1 - j]'(by omega) = ((lb[lb.length - 1 - j]?.getD (0, 0)).1, (lb[lb.length - 1 - j]?.getD (0, 0)).2) from by rw [getD_eq (by omega)]] at HPUT
            obtain ⟨x, ex⟩ : ∃ x, x = (lb[lb.length - 1 - j]?.getD (0, 0)).1 := ⟨_, rfl⟩
            obtain ⟨y, ey⟩ : ∃ y, y = (lb[lb.length - 1 - j]?.getD (0, 0)).2 := ⟨_, rfl⟩
            rw [← ex] at c1 HPUT
            rw [← ey] at c2 HPUT
            have p1 : (0 : Int) ≤ (lb.length : Int) - 1 - (j : Int) := by omega
            have p2 : (lb.length : Int) - 1 - (j : Int) < (lb.length : Int) := by omega
            have p3 : ((lb.length : Int) - 1 - (j : Int)).toNat = lb.length - 1 - j := by omega
            have hml : E.length ≤ 200 := by have := HE.out.len; omega
            have hsz := hbx.size
            have HBX := Lib.hid hbx
            clear ex ey hc hbx
            go_wp2_with (at_builtin; refine wpList_append_own _ rfl _ _ 22 rfl w5.heap.size 34 i0 (.agg #[.int .i64 0, .int .i64 0]) 2 16 Try.underlying22 hi hz0 hz1 hz2 rfl (by decide) _ _ _ rfl (HO.out.alloc _) ⟨wr.heap.size, 0, none⟩ 1 1 [.int .i64 x, .int .i64 y] rfl rfl (cell_two_new _ _ _ _) (by simp [Value.oneCell']) (by unfold maxLen; omega) (by omega) (by simp; omega) ?_; intro v' w4 hown' hgrow _)
            have HZ := Lib.hid ((HBX.out.alloc HBX.out.size (.cells #[.int .i64 x, .int .i64 y] 34)).grown hgrow (by simp; omega) (fun k e => (HO.out.lt k e).1))
            have HT2 := Lib.hid ((HT.out.alloc (.cells #[.int .i64 x, .int .i64 y] 34)).kept hgrow (HT.out.not_row (by decide) HO.out))
            have HO2 : Hid (Mixed w5.heap.size w4 v' (E ++ [(x, y)])) := Lib.hid (by unfold Mixed; rw [cellsS_append, List.length_append]; exact hown')
            clear hown' hgrow
            go_wp2
            go_roundw
            case rel => exact ⟨0 + 1, E ++ [(x, y)], by omega, by go_num, HO2, HPUT, HT2, HZ.out⟩
            case measure => simp [intOf]
          · have HSK := Lib.hid (HE.out.skipB (.inl rfl) hil)
            have p1 : ¬ (0 : Int) ≤ (lb.length : Int) - 1 - (j : Int) := by omega
            have hl60 : lb.length ≤ 60 := by omega
            go_wp2
            go_roundw
            case rel => exact ⟨0 + 1, E, by omega, by go_num, HO, HSK, HT, hbx⟩
            case measure => simp [intOf]
        · have qn : q = 1 := hq0
          subst qn
          clear hq
          obtain ⟨y1, y2, y3⟩ := HT.out.cells
          by_cases hil : j < la.length
          · obtain ⟨bb', ob, rfl, hbb, hc⟩ := Ha.out.block (by intro e; rw [e] at hil; simp at hil)
            have c1 := (hbx.cell (p := ⟨bb', ob + (la.length - 1 - j) * 2, none⟩) hbb).trans (hc (la.length - 1 - j) (by omega)).1
            have c2 := (hbx.cell (p := ⟨bb', ob + (la.length - 1 - j) * 2 + 1, none⟩) hbb).trans (hc (la.length - 1 - j) (by omega)).2
            have HPUT := Lib.hid (HE.out.putA hil)
            rw [show la[la.length - 1 - j]'(by omega) = ((la[la.length - 1 - j]?.getD (0, 0)).1, (la[la.length - 1 - j]?.getD (0, 0)).2) from by rw [getD_eq (by omega)]] at HPUT
            obtain ⟨x, ex⟩ : ∃ x, x = (la[la.length - 1 - j]?.getD (0, 0)).1 := ⟨_, rfl⟩
            obtain ⟨y, ey⟩ : ∃ y, y = (la[la.length - 1 - j]?.getD (0, 0)).2 := ⟨_, rfl⟩
            rw [← ex] at c1 HPUT
            rw [← ey] at c2 HPUT
            have p1 : (0 : Int) ≤ (la.length : Int) - 1 - (j : Int) := by omega
            have p2 : (la.length : Int) - 1 - (j : Int) < (la.length : Int) := by omega
            have p3 : ((la.length : Int) - 1 - (j : Int)).toNat = la.length - 1 - j := by omega
            have hml : E.length ≤ 200 := by have := HE.out.len; omega
            have hsz := hbx.size
            have HBX := Lib.hid hbx
            clear ex ey hc hbx
            go_wp2_with (at_builtin; refine wpList_append_own _ rfl _ _ 22 rfl w5.heap.size 34 i0 (.agg #[.int .i64 0, .int .i64 0]) 2 16 Try.underlying22 hi hz0 hz1 hz2 rfl (by decide) _ _ _ rfl (HO.out.alloc _) ⟨wr.heap.size, 0, none⟩ 1 1 [.int .i64 x, .int .i64 y] rfl rfl (cell_two_new _ _ _ _) (by simp [Value.oneCell']) (by unfold maxLen; omega) (by omega) (by simp; omega) ?_; intro v' w4 hown' hgrow _)
            have HZ := Lib.hid ((HBX.out.alloc HBX.out.size (.cells #[.int .i64 x, .int .i64 y] 34)).grown hgrow (by simp; omega) (fun k e => (HO.out.lt k e).1))
            have HT2 := Lib.hid ((HT.out.alloc (.cells #[.int .i64 x, .int .i64 y] 34)).kept hgrow (HT.out.not_row (by decide) HO.out))
            have HO2 : Hid (Mixed w5.heap.size w4 v' (E ++ [(x, y)])) := Lib.hid (by unfold Mixed; rw [cellsS_append, List.length_append]; exact hown')
            clear hown' hgrow
            go_wp2
            go_roundw
            case rel => exact ⟨1 + 1, E ++ [(x, y)], by omega, by go_num, HO2, HPUT, HT2, HZ.out⟩
            case measure => simp [intOf]
          · have HSK := Lib.hid (HE.out.skipA hil)
            have p1 : ¬ (0 : Int) ≤ (la.length : Int) - 1 - (j : Int) := by omega
            have hl60 : la.length ≤ 60 := by omega
            go_wp2
            go_roundw
            case rel => exact ⟨1 + 1, E, by omega, by go_num, HO, HSK, HT, hbx⟩
            case measure => simp [intOf]
        · have qn : q = 2 := hq0
          subst qn
          clear hq
          obtain ⟨y1, y2, y3⟩ := HT.out.cells
          by_cases hil : j < lb.length
          · obtain ⟨bb', ob, rfl, hbb, hc⟩ := Hb.out.block (by intro e; rw [e] at hil; simp at hil)
            have c1 := (hbx.cell (p := ⟨bb', ob + (lb.length - 1 - j) * 2, none⟩) hbb).trans (hc (lb.length - 1 - j) (by omega)).1
            have c2 := (hbx.cell (p := ⟨bb', ob + (lb.length - 1 - j) * 2 + 1, none⟩) hbb).trans (hc (lb.length - 1 - j) (by omega)).2
            have HPUT := Lib.hid (HE.out.putB (.inr rfl) hil)
            rw [show lb[lb.length - 1 - j]'(by omega) = ((lb[lb.length - 1 - j]?.getD (0, 0)).1, (lb[lb.length - 1 - j]?.getD (0, 0)).2) from by rw [getD_eq (by omega)]] at HPUT
            obtain ⟨x, ex⟩ : ∃ x, x = (lb[lb.length - 1 - j]?.getD (0, 0)).1 := ⟨_, rfl⟩
            obtain ⟨y, ey⟩ : ∃ y, y = (lb[lb.length - 1 - j]?.getD (0, 0)).2 := ⟨_, rfl⟩
            rw [← ex] at c1 HPUT
            rw [← ey] at c2 HPUT
            have p1 : (0 : Int) ≤ (lb.length : Int) - 1 - (j : Int) := by omega
            have p2 : (lb.length : Int) - 1 - (j : Int) < (lb.length : Int) := by omega
            have p3 : ((lb.length : Int) - 1 - (j : Int)).toNat = lb.length - 1 - j := by omega
            have hml : E.length ≤ 200 := by have := HE.out.len; omega
            have hsz := hbx.size
            have HBX := Lib.hid hbx
            clear ex ey hc hbx
            go_wp2_with (at_builtin; refine wpList_append_own _ rfl _ _ 22 rfl w5.heap.size 34 i0 (.agg #[.int .i64 0, .int .i64 0]) 2 16 Try.underlying22 hi hz0 hz1 hz2 rfl (by decide) _ _ _ rfl (HO.out.alloc _) ⟨wr.heap.size, 0, none⟩ 1 1 [.int .i64 x, .int .i64 y] rfl rfl (cell_two_new _ _ _ _) (by simp [Value.oneCell']) (by unfold maxLen; omega) (by omega) (by simp; omega) ?_; intro v' w4 hown' hgrow _)
            have HZ := Lib.hid ((HBX.out.alloc HBX.out.size (.cells #[.int .i64 x, .int .i64 y] 34)).grown hgrow (by simp; omega) (fun k e => (HO.out.lt k e).1))
            have HT2 := Lib.hid ((HT.out.alloc (.cells #[.int .i64 x, .int .i64 y] 34)).kept hgrow (HT.out.not_row (by decide) HO.out))
            have HO2 : Hid (Mixed w5.heap.size w4 v' (E ++ [(x, y)])) := Lib.hid (by unfold Mixed; rw [cellsS_append, List.length_append]; exact hown')
            clear hown' hgrow
            go_wp2
            go_roundw
            case rel => exact ⟨2 + 1, E ++ [(x, y)], by omega, by go_num, HO2, HPUT, HT2, HZ.out⟩
            case measure => simp [intOf]
          · have HSK := Lib.hid (HE.out.skipB (.inr rfl) hil)
            have p1 : ¬ (0 : Int) ≤ (lb.length : Int) - 1 - (j : Int) := by omega
            have hl60 : lb.length ≤ 60 := by omega
            go_wp2
            go_roundw
            case rel => exact ⟨2 + 1, E, by omega, by go_num, HO, HSK, HT, hbx⟩
            case measure => simp [intOf]
        · subst hq0
          have HNX := Lib.hid HE.out.next
          go_wp2
          go_roundw
          case rel => exact ⟨j + 1, E, by omega, by go_num, HO, HNX, hbx⟩
          case measure => simp [intOf]; omega
    · have j1 : ¬ (j : Int) < (mx : Int) := by omega
      obtain ⟨hok, hmk⟩ := HMX.out.done ⟨by omega, by omega⟩ HSa.out HSb.out
      have HOK := Lib.hid hok
      have HMK := Lib.hid hmk
      have hml : M.length ≤ 200 := by have := HMX.out.len; omega
      have HX := Lib.hid (Spn.of_owns HO.out (by omega))
      replace HB := Lib.hid (HB.out.trans (hbw.mono HB.out.size))
      replace Ha := Lib.hid (Ha.out.below hbw (Nat.le_refl _))
      replace Hb := Lib.hid (Hb.out.below hbw (Nat.le_refl _))
      replace Hc := Lib.hid (Hc.out.below hbw (Nat.le_refl _))
      replace XE := Lib.hid (r_box XE.out hbw)
      have EQ := Lib.hid (eqs HSa.out HSb.out HSc.out)
      clear hok hmk hbw HMX HO hml
      go_wp2_with fail
      refine (Make_ok _ _ HOK.out _ HX.out).mono ?_
      rintro e w11 ⟨⟨vmade, rfl, hown⟩, hb⟩
      replace Ha := Lib.hid (Ha.out.below hb (Nat.le_refl _))
      replace Hb := Lib.hid (Hb.out.below hb (Nat.le_refl _))
      replace Hc := Lib.hid (Hc.out.below hb (Nat.le_refl _))
      replace HX := Lib.hid (HX.out.below hb (Nat.le_refl _))
      replace XE := Lib.hid (r_box XE.out hb)
      replace HB := Lib.hid (HB.out.trans (hb.mono HB.out.size))
      rw [HMK.out] at hown
      have Hmade := Lib.hid (Spn.of_owns hown (by have := (comb_spec opU rfl HSa.out HSb.out).1.length; omega))
      clear hown
      clear hb
      go_wp2_with fail
      refine (do_Union HSa.out HSb.out Ha.out Hb.out XE.out).mono ?_
      rintro e w12 ⟨⟨vr1, rfl, hown⟩, hb⟩
      replace Ha := Lib.hid (Ha.out.below hb (Nat.le_refl _))
      replace Hb := Lib.hid (Hb.out.below hb (Nat.le_refl _))
      replace Hc := Lib.hid (Hc.out.below hb (Nat.le_refl _))
      replace HX := Lib.hid (HX.out.below hb (Nat.le_refl _))
      replace Hmade := Lib.hid (Hmade.out.below hb (Nat.le_refl _))
      replace XE := Lib.hid (r_box XE.out hb)
      replace HB := Lib.hid (HB.out.trans (hb.mono HB.out.size))
      have Hr1 := Lib.hid (Spn.of_owns hown (by have := ((comb_spec opU rfl HSa.out HSb.out).1).length; omega))
      clear hown
      clear hb
      go_wp2_with fail
      refine (do_Union HSb.out HSa.out Hb.out Ha.out XE.out).mono ?_
      rintro e w13 ⟨⟨vr2, rfl, hown⟩, hb⟩
      replace Ha := Lib.hid (Ha.out.below hb (Nat.le_refl _))
      replace Hb := Lib.hid (Hb.out.below hb (Nat.le_refl _))
      replace Hc := Lib.hid (Hc.out.below hb (Nat.le_refl _))
      replace HX := Lib.hid (HX.out.below hb (Nat.le_refl _))
      replace Hmade := Lib.hid (Hmade.out.below hb (Nat.le_refl _))
      replace Hr1 := Lib.hid (Hr1.out.below hb (Nat.le_refl _))
      replace XE := Lib.hid (r_box XE.out hb)
      replace HB := Lib.hid (HB.out.trans (hb.mono HB.out.size))
      have Hr2 := Lib.hid (Spn.of_owns hown (by have := ((comb_spec opU rfl HSb.out HSa.out).1).length; omega))
      clear hown
      clear hb
      go_wp2_with fail
      refine (Same_eq EQ.out.e1 Hr1.out Hr2.out).mono ?_
      rintro e w14 ⟨rfl, hb⟩
      replace Ha := Lib.hid (Ha.out.below hb (Nat.le_refl _))
      replace Hb := Lib.hid (Hb.out.below hb (Nat.le_refl _))
      replace Hc := Lib.hid (Hc.out.below hb (Nat.le_refl _))
      replace HX := Lib.hid (HX.out.below hb (Nat.le_refl _))
      replace Hmade := Lib.hid (Hmade.out.below hb (Nat.le_refl _))
      replace Hr1 := Lib.hid (Hr1.out.below hb (Nat.le_refl _))
      replace Hr2 := Lib.hid (Hr2.out.below hb (Nat.le_refl _))
      replace XE := Lib.hid (r_box XE.out hb)
      replace HB := Lib.hid (HB.out.trans (hb.mono HB.out.size))
      clear hb
      clear Hr1
      clear Hr2
      go_wp2_with fail
      refine (do_Meet HSa.out HSb.out Ha.out Hb.out XE.out).mono ?_
      rintro e w15 ⟨⟨vr3, rfl, hown⟩, hb⟩
      replace Ha := Lib.hid (Ha.out.below hb (Nat.le_refl _))
      replace Hb := Lib.hid (Hb.out.below hb (Nat.le_refl _))
      replace Hc := Lib.hid (Hc.out.below hb (Nat.le_refl _))
      replace HX := Lib.hid (HX.out.below hb (Nat.le_refl _))
      replace Hmade := Lib.hid (Hmade.out.below hb (Nat.le_refl _))
      replace XE := Lib.hid (r_box XE.out hb)
      replace HB := Lib.hid (HB.out.trans (hb.mono HB.out.size))
      have Hr3 := Lib.hid (Spn.of_owns hown (by have := ((comb_spec opM rfl HSa.out HSb.out).1).length; omega))
      clear hown
      clear hb
      go_wp2_with fail
      refine (do_Meet HSb.out HSa.out Hb.out Ha.out XE.out).mono ?_
      rintro e w16 ⟨⟨vr4, rfl, hown⟩, hb⟩
      replace Ha := Lib.hid (Ha.out.below hb (Nat.le_refl _))
      replace Hb := Lib.hid (Hb.out.below hb (Nat.le_refl _))
      replace Hc := Lib.hid (Hc.out.below hb (Nat.le_refl _))
      replace HX := Lib.hid (HX.out.below hb (Nat.le_refl _))
      replace Hmade := Lib.hid (Hmade.out.below hb (Nat.le_refl _))
      replace Hr3 := Lib.hid (Hr3.out.below hb (Nat.le_refl _))
      replace XE := Lib.hid (r_box XE.out hb)
      replace HB := Lib.hid (HB.out.trans (hb.mono HB.out.size))
      have Hr4 := Lib.hid (Spn.of_owns hown (by have := ((comb_spec opM rfl HSb.out HSa.out).1).length; omega))
      clear hown
      clear hb
      go_wp2_with fail
      refine (Same_eq EQ.out.e2 Hr3.out Hr4.out).mono ?_
      rintro e w17 ⟨rfl, hb⟩
      replace Ha := Lib.hid (Ha.out.below hb (Nat.le_refl _))
      replace Hb := Lib.hid (Hb.out.below hb (Nat.le_refl _))
      replace Hc := Lib.hid (Hc.out.below hb (Nat.le_refl _))
      replace HX := Lib.hid (HX.out.below hb (Nat.le_refl _))
      replace Hmade := Lib.hid (Hmade.out.below hb (Nat.le_refl _))
      replace Hr3 := Lib.hid (Hr3.out.below hb (Nat.le_refl _))
      replace Hr4 := Lib.hid (Hr4.out.below hb (Nat.le_refl _))
      replace XE := Lib.hid (r_box XE.out hb)
      replace HB := Lib.hid (HB.out.trans (hb.mono HB.out.size))
      clear hb
      clear Hr3
      clear Hr4
      go_wp2_with fail
      refine (do_Union HSa.out HSb.out Ha.out Hb.out XE.out).mono ?_
      rintro e w18 ⟨⟨vr5, rfl, hown⟩, hb⟩
      replace Ha := Lib.hid (Ha.out.below hb (Nat.le_refl _))
      replace Hb := Lib.hid (Hb.out.below hb (Nat.le_refl _))
      replace Hc := Lib.hid (Hc.out.below hb (Nat.le_refl _))
      replace HX := Lib.hid (HX.out.below hb (Nat.le_refl _))
      replace Hmade := Lib.hid (Hmade.out.below hb (Nat.le_refl _))
      replace XE := Lib.hid (r_box XE.out hb)
      replace HB := Lib.hid (HB.out.trans (hb.mono HB.out.size))
      have Hr5 := Lib.hid (Spn.of_owns hown (by have := ((comb_spec opU rfl HSa.out HSb.out).1).length; omega))
      clear hown
      clear hb
      go_wp2_with fail
      refine (do_Union ((comb_spec opU rfl HSa.out HSb.out).1) HSc.out Hr5.out Hc.out XE.out).mono ?_
      rintro e w19 ⟨⟨vr6, rfl, hown⟩, hb⟩
      replace Ha := Lib.hid (Ha.out.below hb (Nat.le_refl _))
      replace Hb := Lib.hid (Hb.out.below hb (Nat.le_refl _))
      replace Hc := Lib.hid (Hc.out.below hb (Nat.le_refl _))
      replace HX := Lib.hid (HX.out.below hb (Nat.le_refl _))
      replace Hmade := Lib.hid (Hmade.out.below hb (Nat.le_refl _))
      replace Hr5 := Lib.hid (Hr5.out.below hb (Nat.le_refl _))
      replace XE := Lib.hid (r_box XE.out hb)
      replace HB := Lib.hid (HB.out.trans (hb.mono HB.out.size))
      have Hr6 := Lib.hid (Spn.of_owns hown (by have := ((comb_spec opU rfl ((comb_spec opU rfl HSa.out HSb.out).1) HSc.out).1).length; omega))
      clear hown
      clear hb
      go_wp2_with fail
      refine (do_Union HSb.out HSc.out Hb.out Hc.out XE.out).mono ?_
      rintro e w20 ⟨⟨vr7, rfl, hown⟩, hb⟩
      replace Ha := Lib.hid (Ha.out.below hb (Nat.le_refl _))
      replace Hb := Lib.hid (Hb.out.below hb (Nat.le_refl _))
      replace Hc := Lib.hid (Hc.out.below hb (Nat.le_refl _))
      replace HX := Lib.hid (HX.out.below hb (Nat.le_refl _))
      replace Hmade := Lib.hid (Hmade.out.below hb (Nat.le_refl _))
      replace Hr5 := Lib.hid (Hr5.out.below hb (Nat.le_refl _))
      replace Hr6 := Lib.hid (Hr6.out.below hb (Nat.le_refl _))
      replace XE := Lib.hid (r_box XE.out hb)
      replace HB := Lib.hid (HB.out.trans (hb.mono HB.out.size))
      have Hr7 := Lib.hid (Spn.of_owns hown (by have := ((comb_spec opU rfl HSb.out HSc.out).1).length; omega))
      clear hown
      clear hb
      go_wp2_with fail
      refine (do_Union HSa.out ((comb_spec opU rfl HSb.out HSc.out).1) Ha.out Hr7.out XE.out).mono ?_
      rintro e w21 ⟨⟨vr8, rfl, hown⟩, hb⟩
      replace Ha := Lib.hid (Ha.out.below hb (Nat.le_refl _))
      replace Hb := Lib.hid (Hb.out.below hb (Nat.le_refl _))
      replace Hc := Lib.hid (Hc.out.below hb (Nat.le_refl _))
      replace HX := Lib.hid (HX.out.below hb (Nat.le_refl _))
      replace Hmade := Lib.hid (Hmade.out.below hb (Nat.le_refl _))
      replace Hr5 := Lib.hid (Hr5.out.below hb (Nat.le_refl _))
      replace Hr6 := Lib.hid (Hr6.out.below hb (Nat.le_refl _))
      replace Hr7 := Lib.hid (Hr7.out.below hb (Nat.le_refl _))
      replace XE := Lib.hid (r_box XE.out hb)
      replace HB := Lib.hid (HB.out.trans (hb.mono HB.out.size))
      have Hr8 := Lib.hid (Spn.of_owns hown (by have := ((comb_spec opU rfl HSa.out ((comb_spec opU rfl HSb.out HSc.out).1)).1).length; omega))
      clear hown
      clear hb
      go_wp2_with fail
      refine (Same_eq EQ.out.e3 Hr6.out Hr8.out).mono ?_
      rintro e w22 ⟨rfl, hb⟩
      replace Ha := Lib.hid (Ha.out.below hb (Nat.le_refl _))
      replace Hb := Lib.hid (Hb.out.below hb (Nat.le_refl _))
      replace Hc := Lib.hid (Hc.out.below hb (Nat.le_refl _))
      replace HX := Lib.hid (HX.out.below hb (Nat.le_refl _))
      replace Hmade := Lib.hid (Hmade.out.below hb (Nat.le_refl _))
      replace Hr5 := Lib.hid (Hr5.out.below hb (Nat.le_refl _))
      replace Hr6 := Lib.hid (Hr6.out.below hb (Nat.le_refl _))
      replace Hr7 := Lib.hid (Hr7.out.below hb (Nat.le_refl _))
      replace Hr8 := Lib.hid (Hr8.out.below hb (Nat.le_refl _))
      replace XE := Lib.hid (r_box XE.out hb)
      replace HB := Lib.hid (HB.out.trans (hb.mono HB.out.size))
      clear hb
      clear Hr6
      clear Hr8
      go_wp2_with fail
      refine (do_Meet HSa.out HSb.out Ha.out Hb.out XE.out).mono ?_
      rintro e w23 ⟨⟨vr9, rfl, hown⟩, hb⟩
      replace Ha := Lib.hid (Ha.out.below hb (Nat.le_refl _))
      replace Hb := Lib.hid (Hb.out.below hb (Nat.le_refl _))
      replace Hc := Lib.hid (Hc.out.below hb (Nat.le_refl _))
      replace HX := Lib.hid (HX.out.below hb (Nat.le_refl _))
      replace Hmade := Lib.hid (Hmade.out.below hb (Nat.le_refl _))
      replace Hr5 := Lib.hid (Hr5.out.below hb (Nat.le_refl _))
      replace Hr7 := Lib.hid (Hr7.out.below hb (Nat.le_refl _))
      replace XE := Lib.hid (r_box XE.out hb)
      replace HB := Lib.hid (HB.out.trans (hb.mono HB.out.size))
      have Hr9 := Lib.hid (Spn.of_owns hown (by have := ((comb_spec opM rfl HSa.out HSb.out).1).length; omega))
      clear hown
      clear hb
      go_wp2_with fail
      refine (do_Meet ((comb_spec opM rfl HSa.out HSb.out).1) HSc.out Hr9.out Hc.out XE.out).mono ?_
      rintro e w24 ⟨⟨vr10, rfl, hown⟩, hb⟩
      replace Ha := Lib.hid (Ha.out.below hb (Nat.le_refl _))
      replace Hb := Lib.hid (Hb.out.below hb (Nat.le_refl _))
      replace Hc := Lib.hid (Hc.out.below hb (Nat.le_refl _))
      replace HX := Lib.hid (HX.out.below hb (Nat.le_refl _))
      replace Hmade := Lib.hid (Hmade.out.below hb (Nat.le_refl _))
      replace Hr5 := Lib.hid (Hr5.out.below hb (Nat.le_refl _))
      replace Hr7 := Lib.hid (Hr7.out.below hb (Nat.le_refl _))
      replace Hr9 := Lib.hid (Hr9.out.below hb (Nat.le_refl _))
      replace XE := Lib.hid (r_box XE.out hb)
      replace HB := Lib.hid (HB.out.trans (hb.mono HB.out.size))
      have Hr10 := Lib.hid (Spn.of_owns hown (by have := ((comb_spec opM rfl ((comb_spec opM rfl HSa.out HSb.out).1) HSc.out).1).length; omega))
      clear hown
      clear hb
      go_wp2_with fail
      refine (do_Meet HSb.out HSc.out Hb.out Hc.out XE.out).mono ?_
      rintro e w25 ⟨⟨vr11, rfl, hown⟩, hb⟩
      replace Ha := Lib.hid (Ha.out.below hb (Nat.le_refl _))
      replace Hb := Lib.hid (Hb.out.below hb (Nat.le_refl _))
      replace Hc := Lib.hid (Hc.out.below hb (Nat.le_refl _))
      replace HX := Lib.hid (HX.out.below hb (Nat.le_refl _))
      replace Hmade := Lib.hid (Hmade.out.below hb (Nat.le_refl _))
      replace Hr5 := Lib.hid (Hr5.out.below hb (Nat.le_refl _))
      replace Hr7 := Lib.hid (Hr7.out.below hb (Nat.le_refl _))
      replace Hr9 := Lib.hid (Hr9.out.below hb (Nat.le_refl _))
      replace Hr10 := Lib.hid (Hr10.out.below hb (Nat.le_refl _))
      replace XE := Lib.hid (r_box XE.out hb)
      replace HB := Lib.hid (HB.out.trans (hb.mono HB.out.size))
      have Hr11 := Lib.hid (Spn.of_owns hown (by have := ((comb_spec opM rfl HSb.out HSc.out).1).length; omega))
      clear hown
      clear hb
      go_wp2_with fail
      refine (do_Meet HSa.out ((comb_spec opM rfl HSb.out HSc.out).1) Ha.out Hr11.out XE.out).mono ?_
      rintro e w26 ⟨⟨vr12, rfl, hown⟩, hb⟩
      replace Ha := Lib.hid (Ha.out.below hb (Nat.le_refl _))
      replace Hb := Lib.hid (Hb.out.below hb (Nat.le_refl _))
      replace Hc := Lib.hid (Hc.out.below hb (Nat.le_refl _))
      replace HX := Lib.hid (HX.out.below hb (Nat.le_refl _))
      replace Hmade := Lib.hid (Hmade.out.below hb (Nat.le_refl _))
      replace Hr5 := Lib.hid (Hr5.out.below hb (Nat.le_refl _))
      replace Hr7 := Lib.hid (Hr7.out.below hb (Nat.le_refl _))
      replace Hr9 := Lib.hid (Hr9.out.below hb (Nat.le_refl _))
      replace Hr10 := Lib.hid (Hr10.out.below hb (Nat.le_refl _))
      replace Hr11 := Lib.hid (Hr11.out.below hb (Nat.le_refl _))
      replace XE := Lib.hid (r_box XE.out hb)
      replace HB := Lib.hid (HB.out.trans (hb.mono HB.out.size))
      have Hr12 := Lib.hid (Spn.of_owns hown (by have := ((comb_spec opM rfl HSa.out ((comb_spec opM rfl HSb.out HSc.out).1)).1).length; omega))
      clear hown
      clear hb
      go_wp2_with fail
      refine (Same_eq EQ.out.e4 Hr10.out Hr12.out).mono ?_
      rintro e w27 ⟨rfl, hb⟩
      replace Ha := Lib.hid (Ha.out.below hb (Nat.le_refl _))
      replace Hb := Lib.hid (Hb.out.below hb (Nat.le_refl _))
      replace Hc := Lib.hid (Hc.out.below hb (Nat.le_refl _))
      replace HX := Lib.hid (HX.out.below hb (Nat.le_refl _))
      replace Hmade := Lib.hid (Hmade.out.below hb (Nat.le_refl _))
      replace Hr5 := Lib.hid (Hr5.out.below hb (Nat.le_refl _))
      replace Hr7 := Lib.hid (Hr7.out.below hb (Nat.le_refl _))
      replace Hr9 := Lib.hid (Hr9.out.below hb (Nat.le_refl _))
      replace Hr10 := Lib.hid (Hr10.out.below hb (Nat.le_refl _))
      replace Hr11 := Lib.hid (Hr11.out.below hb (Nat.le_refl _))
      replace Hr12 := Lib.hid (Hr12.out.below hb (Nat.le_refl _))
      replace XE := Lib.hid (r_box XE.out hb)
      replace HB := Lib.hid (HB.out.trans (hb.mono HB.out.size))
      clear hb
      clear Hr10
      clear Hr12
      go_wp2_with fail
      refine (do_Union HSb.out HSc.out Hb.out Hc.out XE.out).mono ?_
      rintro e w28 ⟨⟨vr13, rfl, hown⟩, hb⟩
      replace Ha := Lib.hid (Ha.out.below hb (Nat.le_refl _))
      replace Hb := Lib.hid (Hb.out.below hb (Nat.le_refl _))
      replace Hc := Lib.hid (Hc.out.below hb (Nat.le_refl _))
      replace HX := Lib.hid (HX.out.below hb (Nat.le_refl _))
      replace Hmade := Lib.hid (Hmade.out.below hb (Nat.le_refl _))
      replace Hr5 := Lib.hid (Hr5.out.below hb (Nat.le_refl _))
      replace Hr7 := Lib.hid (Hr7.out.below hb (Nat.le_refl _))
      replace Hr9 := Lib.hid (Hr9.out.below hb (Nat.le_refl _))
      replace Hr11 := Lib.hid (Hr11.out.below hb (Nat.le_refl _))
      replace XE := Lib.hid (r_box XE.out hb)
      replace HB := Lib.hid (HB.out.trans (hb.mono HB.out.size))
      have Hr13 := Lib.hid (Spn.of_owns hown (by have := ((comb_spec opU rfl HSb.out HSc.out).1).length; omega))
      clear hown
      clear hb
      go_wp2_with fail
      refine (do_Meet HSa.out ((comb_spec opU rfl HSb.out HSc.out).1) Ha.out Hr13.out XE.out).mono ?_
      rintro e w29 ⟨⟨vr14, rfl, hown⟩, hb⟩
      replace Ha := Lib.hid (Ha.out.below hb (Nat.le_refl _))
      replace Hb := Lib.hid (Hb.out.below hb (Nat.le_refl _))
      replace Hc := Lib.hid (Hc.out.below hb (Nat.le_refl _))
      replace HX := Lib.hid (HX.out.below hb (Nat.le_refl _))
      replace Hmade := Lib.hid (Hmade.out.below hb (Nat.le_refl _))
      replace Hr5 := Lib.hid (Hr5.out.below hb (Nat.le_refl _))
      replace Hr7 := Lib.hid (Hr7.out.below hb (Nat.le_refl _))
      replace Hr9 := Lib.hid (Hr9.out.below hb (Nat.le_refl _))
      replace Hr11 := Lib.hid (Hr11.out.below hb (Nat.le_refl _))
      replace Hr13 := Lib.hid (Hr13.out.below hb (Nat.le_refl _))
      replace XE := Lib.hid (r_box XE.out hb)
      replace HB := Lib.hid (HB.out.trans (hb.mono HB.out.size))
      have Hr14 := Lib.hid (Spn.of_owns hown (by have := ((comb_spec opM rfl HSa.out ((comb_spec opU rfl HSb.out HSc.out).1)).1).length; omega))
      clear hown
      clear hb
      go_wp2_with fail
      refine (do_Meet HSa.out HSb.out Ha.out Hb.out XE.out).mono ?_
      rintro e w30 ⟨⟨vr15, rfl, hown⟩, hb⟩
      replace Ha := Lib.hid (Ha.out.below hb (Nat.le_refl _))
      replace Hb := Lib.hid (Hb.out.below hb (Nat.le_refl _))
      replace Hc := Lib.hid (Hc.out.below hb (Nat.le_refl _))
      replace HX := Lib.hid (HX.out.below hb (Nat.le_refl _))
      replace Hmade := Lib.hid (Hmade.out.below hb (Nat.le_refl _))
      replace Hr5 := Lib.hid (Hr5.out.below hb (Nat.le_refl _))
      replace Hr7 := Lib.hid (Hr7.out.below hb (Nat.le_refl _))
      replace Hr9 := Lib.hid (Hr9.out.below hb (Nat.le_refl _))
      replace Hr11 := Lib.hid (Hr11.out.below hb (Nat.le_refl _))
      replace Hr13 := Lib.hid (Hr13.out.below hb (Nat.le_refl _))
      replace Hr14 := Lib.hid (Hr14.out.below hb (Nat.le_refl _))
      replace XE := Lib.hid (r_box XE.out hb)
      replace HB := Lib.hid (HB.out.trans (hb.mono HB.out.size))
      have Hr15 := Lib.hid (Spn.of_owns hown (by have := ((comb_spec opM rfl HSa.out HSb.out).1).length; omega))
      clear hown
      clear hb
      go_wp2_with fail
      refine (do_Meet HSa.out HSc.out Ha.out Hc.out XE.out).mono ?_
      rintro e w31 ⟨⟨vr16, rfl, hown⟩, hb⟩
      replace Ha := Lib.hid (Ha.out.below hb (Nat.le_refl _))
      replace Hb := Lib.hid (Hb.out.below hb (Nat.le_refl _))
      replace Hc := Lib.hid (Hc.out.below hb (Nat.le_refl _))
      replace HX := Lib.hid (HX.out.below hb (Nat.le_refl _))
      replace Hmade := Lib.hid (Hmade.out.below hb (Nat.le_refl _))
      replace Hr5 := Lib.hid (Hr5.out.below hb (Nat.le_refl _))
      replace Hr7 := Lib.hid (Hr7.out.below hb (Nat.le_refl _))
      replace Hr9 := Lib.hid (Hr9.out.below hb (Nat.le_refl _))
      replace Hr11 := Lib.hid (Hr11.out.below hb (Nat.le_refl _))
      replace Hr13 := Lib.hid (Hr13.out.below hb (Nat.le_refl _))
      replace Hr14 := Lib.hid (Hr14.out.below hb (Nat.le_refl _))
      replace Hr15 := Lib.hid (Hr15.out.below hb (Nat.le_refl _))
      replace XE := Lib.hid (r_box XE.out hb)
      replace HB := Lib.hid (HB.out.trans (hb.mono HB.out.size))
      have Hr16 := Lib.hid (Spn.of_owns hown (by have := ((comb_spec opM rfl HSa.out HSc.out).1).length; omega))
      clear hown
      clear hb
      go_wp2_with fail
      refine (do_Union ((comb_spec opM rfl HSa.out HSb.out).1) ((comb_spec opM rfl HSa.out HSc.out).1) Hr15.out Hr16.out XE.out).mono ?_
      rintro e w32 ⟨⟨vr17, rfl, hown⟩, hb⟩
      replace Ha := Lib.hid (Ha.out.below hb (Nat.le_refl _))
      replace Hb := Lib.hid (Hb.out.below hb (Nat.le_refl _))
      replace Hc := Lib.hid (Hc.out.below hb (Nat.le_refl _))
      replace HX := Lib.hid (HX.out.below hb (Nat.le_refl _))
      replace Hmade := Lib.hid (Hmade.out.below hb (Nat.le_refl _))
      replace Hr5 := Lib.hid (Hr5.out.below hb (Nat.le_refl _))
      replace Hr7 := Lib.hid (Hr7.out.below hb (Nat.le_refl _))
      replace Hr9 := Lib.hid (Hr9.out.below hb (Nat.le_refl _))
      replace Hr11 := Lib.hid (Hr11.out.below hb (Nat.le_refl _))
      replace Hr13 := Lib.hid (Hr13.out.below hb (Nat.le_refl _))
      replace Hr14 := Lib.hid (Hr14.out.below hb (Nat.le_refl _))
      replace Hr15 := Lib.hid (Hr15.out.below hb (Nat.le_refl _))
      replace Hr16 := Lib.hid (Hr16.out.below hb (Nat.le_refl _))
      replace XE := Lib.hid (r_box XE.out hb)
      replace HB := Lib.hid (HB.out.trans (hb.mono HB.out.size))
      have Hr17 := Lib.hid (Spn.of_owns hown (by have := ((comb_spec opU rfl ((comb_spec opM rfl HSa.out HSb.out).1) ((comb_spec opM rfl HSa.out HSc.out).1)).1).length; omega))
      clear hown
      clear hb
      go_wp2_with fail
      refine (Same_eq EQ.out.e5 Hr14.out Hr17.out).mono ?_
      rintro e w33 ⟨rfl, hb⟩
      replace Ha := Lib.hid (Ha.out.below hb (Nat.le_refl _))
      replace Hb := Lib.hid (Hb.out.below hb (Nat.le_refl _))
      replace Hc := Lib.hid (Hc.out.below hb (Nat.le_refl _))
      replace HX := Lib.hid (HX.out.below hb (Nat.le_refl _))
      replace Hmade := Lib.hid (Hmade.out.below hb (Nat.le_refl _))
      replace Hr5 := Lib.hid (Hr5.out.below hb (Nat.le_refl _))
      replace Hr7 := Lib.hid (Hr7.out.below hb (Nat.le_refl _))
      replace Hr9 := Lib.hid (Hr9.out.below hb (Nat.le_refl _))
      replace Hr11 := Lib.hid (Hr11.out.below hb (Nat.le_refl _))
      replace Hr13 := Lib.hid (Hr13.out.below hb (Nat.le_refl _))
      replace Hr14 := Lib.hid (Hr14.out.below hb (Nat.le_refl _))
      replace Hr15 := Lib.hid (Hr15.out.below hb (Nat.le_refl _))
      replace Hr16 := Lib.hid (Hr16.out.below hb (Nat.le_refl _))
      replace Hr17 := Lib.hid (Hr17.out.below hb (Nat.le_refl _))
      replace XE := Lib.hid (r_box XE.out hb)
      replace HB := Lib.hid (HB.out.trans (hb.mono HB.out.size))
      clear hb
      clear Hr14
      clear Hr17
      go_wp2_with fail
      refine (do_Meet HSb.out HSc.out Hb.out Hc.out XE.out).mono ?_
      rintro e w34 ⟨⟨vr18, rfl, hown⟩, hb⟩
      replace Ha := Lib.hid (Ha.out.below hb (Nat.le_refl _))
      replace Hb := Lib.hid (Hb.out.below hb (Nat.le_refl _))
      replace Hc := Lib.hid (Hc.out.below hb (Nat.le_refl _))
      replace HX := Lib.hid (HX.out.below hb (Nat.le_refl _))
      replace Hmade := Lib.hid (Hmade.out.below hb (Nat.le_refl _))
      replace Hr5 := Lib.hid (Hr5.out.below hb (Nat.le_refl _))
      replace Hr7 := Lib.hid (Hr7.out.below hb (Nat.le_refl _))
      replace Hr9 := Lib.hid (Hr9.out.below hb (Nat.le_refl _))
      replace Hr11 := Lib.hid (Hr11.out.below hb (Nat.le_refl _))
      replace Hr13 := Lib.hid (Hr13.out.below hb (Nat.le_refl _))
      replace Hr15 := Lib.hid (Hr15.out.below hb (Nat.le_refl _))
      replace Hr16 := Lib.hid (Hr16.out.below hb (Nat.le_refl _))
      replace XE := Lib.hid (r_box XE.out hb)
      replace HB := Lib.hid (HB.out.trans (hb.mono HB.out.size))
      have Hr18 := Lib.hid (Spn.of_owns hown (by have := ((comb_spec opM rfl HSb.out HSc.out).1).length; omega))
      clear hown
      clear hb
      go_wp2_with fail
      refine (do_Union HSa.out ((comb_spec opM rfl HSb.out HSc.out).1) Ha.out Hr18.out XE.out).mono ?_
      rintro e w35 ⟨⟨vr19, rfl, hown⟩, hb⟩
      replace Ha := Lib.hid (Ha.out.below hb (Nat.le_refl _))
      replace Hb := Lib.hid (Hb.out.below hb (Nat.le_refl _))
      replace Hc := Lib.hid (Hc.out.below hb (Nat.le_refl _))
      replace HX := Lib.hid (HX.out.below hb (Nat.le_refl _))
      replace Hmade := Lib.hid (Hmade.out.below hb (Nat.le_refl _))
      replace Hr5 := Lib.hid (Hr5.out.below hb (Nat.le_refl _))
      replace Hr7 := Lib.hid (Hr7.out.below hb (Nat.le_refl _))
      replace Hr9 := Lib.hid (Hr9.out.below hb (Nat.le_refl _))
      replace Hr11 := Lib.hid (Hr11.out.below hb (Nat.le_refl _))
      replace Hr13 := Lib.hid (Hr13.out.below hb (Nat.le_refl _))
      replace Hr15 := Lib.hid (Hr15.out.below hb (Nat.le_refl _))
      replace Hr16 := Lib.hid (Hr16.out.below hb (Nat.le_refl _))
      replace Hr18 := Lib.hid (Hr18.out.below hb (Nat.le_refl _))
      replace XE := Lib.hid (r_box XE.out hb)
      replace HB := Lib.hid (HB.out.trans (hb.mono HB.out.size))
      have Hr19 := Lib.hid (Spn.of_owns hown (by have := ((comb_spec opU rfl HSa.out ((comb_spec opM rfl HSb.out HSc.out).1)).1).length; omega))
      clear hown
      clear hb
      go_wp2_with fail
      refine (do_Union HSa.out HSb.out Ha.out Hb.out XE.out).mono ?_
      rintro e w36 ⟨⟨vr20, rfl, hown⟩, hb⟩
      replace Ha := Lib.hid (Ha.out.below hb (Nat.le_refl _))
      replace Hb := Lib.hid (Hb.out.below hb (Nat.le_refl _))
      replace Hc := Lib.hid (Hc.out.below hb (Nat.le_refl _))
      replace HX := Lib.hid (HX.out.below hb (Nat.le_refl _))
      replace Hmade := Lib.hid (Hmade.out.below hb (Nat.le_refl _))
      replace Hr5 := Lib.hid (Hr5.out.below hb (Nat.le_refl _))
      replace Hr7 := Lib.hid (Hr7.out.below hb (Nat.le_refl _))
      replace Hr9 := Lib.hid (Hr9.out.below hb (Nat.le_refl _))
      replace Hr11 := Lib.hid (Hr11.out.below hb (Nat.le_refl _))
      replace Hr13 := Lib.hid (Hr13.out.below hb (Nat.le_refl _))
      replace Hr15 := Lib.hid (Hr15.out.below hb (Nat.le_refl _))
      replace Hr16 := Lib.hid (Hr16.out.below hb (Nat.le_refl _))
      replace Hr18 := Lib.hid (Hr18.out.below hb (Nat.le_refl _))
      replace Hr19 := Lib.hid (Hr19.out.below hb (Nat.le_refl _))
      replace XE := Lib.hid (r_box XE.out hb)
      replace HB := Lib.hid (HB.out.trans (hb.mono HB.out.size))
      have Hr20 := Lib.hid (Spn.of_owns hown (by have := ((comb_spec opU rfl HSa.out HSb.out).1).length; omega))
      clear hown
      clear hb
      go_wp2_with fail
      refine (do_Union HSa.out HSc.out Ha.out Hc.out XE.out).mono ?_
      rintro e w37 ⟨⟨vr21, rfl, hown⟩, hb⟩
      replace Ha := Lib.hid (Ha.out.below hb (Nat.le_refl _))
      replace Hb := Lib.hid (Hb.out.below hb (Nat.le_refl _))
      replace Hc := Lib.hid (Hc.out.below hb (Nat.le_refl _))
      replace HX := Lib.hid (HX.out.below hb (Nat.le_refl _))
      replace Hmade := Lib.hid (Hmade.out.below hb (Nat.le_refl _))
      replace Hr5 := Lib.hid (Hr5.out.below hb (Nat.le_refl _))
      replace Hr7 := Lib.hid (Hr7.out.below hb (Nat.le_refl _))
      replace Hr9 := Lib.hid (Hr9.out.below hb (Nat.le_refl _))
      replace Hr11 := Lib.hid (Hr11.out.below hb (Nat.le_refl _))
      replace Hr13 := Lib.hid (Hr13.out.below hb (Nat.le_refl _))
      replace Hr15 := Lib.hid (Hr15.out.below hb (Nat.le_refl _))
      replace Hr16 := Lib.hid (Hr16.out.below hb (Nat.le_refl _))
      replace Hr18 := Lib.hid (Hr18.out.below hb (Nat.le_refl _))
      replace Hr19 := Lib.hid (Hr19.out.below hb (Nat.le_refl _))
      replace Hr20 := Lib.hid (Hr20.out.below hb (Nat.le_refl _))
      replace XE := Lib.hid (r_box XE.out hb)
      replace HB := Lib.hid (HB.out.trans (hb.mono HB.out.size))
      have Hr21 := Lib.hid (Spn.of_owns hown (by have := ((comb_spec opU rfl HSa.out HSc.out).1).length; omega))
      clear hown
      clear hb
      go_wp2_with fail
      refine (do_Meet ((comb_spec opU rfl HSa.out HSb.out).1) ((comb_spec opU rfl HSa.out HSc.out).1) Hr20.out Hr21.out XE.out).mono ?_
      rintro e w38 ⟨⟨vr22, rfl, hown⟩, hb⟩
      replace Ha := Lib.hid (Ha.out.below hb (Nat.le_refl _))
      replace Hb := Lib.hid (Hb.out.below hb (Nat.le_refl _))
      replace Hc := Lib.hid (Hc.out.below hb (Nat.le_refl _))
      replace HX := Lib.hid (HX.out.below hb (Nat.le_refl _))
      replace Hmade := Lib.hid (Hmade.out.below hb (Nat.le_refl _))
      replace Hr5 := Lib.hid (Hr5.out.below hb (Nat.le_refl _))
      replace Hr7 := Lib.hid (Hr7.out.below hb (Nat.le_refl _))
      replace Hr9 := Lib.hid (Hr9.out.below hb (Nat.le_refl _))
      replace Hr11 := Lib.hid (Hr11.out.below hb (Nat.le_refl _))
      replace Hr13 := Lib.hid (Hr13.out.below hb (Nat.le_refl _))
      replace Hr15 := Lib.hid (Hr15.out.below hb (Nat.le_refl _))
      replace Hr16 := Lib.hid (Hr16.out.below hb (Nat.le_refl _))
      replace Hr18 := Lib.hid (Hr18.out.below hb (Nat.le_refl _))
      replace Hr19 := Lib.hid (Hr19.out.below hb (Nat.le_refl _))
      replace Hr20 := Lib.hid (Hr20.out.below hb (Nat.le_refl _))
      replace Hr21 := Lib.hid (Hr21.out.below hb (Nat.le_refl _))
      replace XE := Lib.hid (r_box XE.out hb)
      replace HB := Lib.hid (HB.out.trans (hb.mono HB.out.size))
      have Hr22 := Lib.hid (Spn.of_owns hown (by have := ((comb_spec opM rfl ((comb_spec opU rfl HSa.out HSb.out).1) ((comb_spec opU rfl HSa.out HSc.out).1)).1).length; omega))
      clear hown
      clear hb
      go_wp2_with fail
      refine (Same_eq EQ.out.e6 Hr19.out Hr22.out).mono ?_
      rintro e w39 ⟨rfl, hb⟩
      replace Ha := Lib.hid (Ha.out.below hb (Nat.le_refl _))
      replace Hb := Lib.hid (Hb.out.below hb (Nat.le_refl _))
      replace Hc := Lib.hid (Hc.out.below hb (Nat.le_refl _))
      replace HX := Lib.hid (HX.out.below hb (Nat.le_refl _))
      replace Hmade := Lib.hid (Hmade.out.below hb (Nat.le_refl _))
      replace Hr5 := Lib.hid (Hr5.out.below hb (Nat.le_refl _))
      replace Hr7 := Lib.hid (Hr7.out.below hb (Nat.le_refl _))
      replace Hr9 := Lib.hid (Hr9.out.below hb (Nat.le_refl _))
      replace Hr11 := Lib.hid (Hr11.out.below hb (Nat.le_refl _))
      replace Hr13 := Lib.hid (Hr13.out.below hb (Nat.le_refl _))
      replace Hr15 := Lib.hid (Hr15.out.below hb (Nat.le_refl _))
      replace Hr16 := Lib.hid (Hr16.out.below hb (Nat.le_refl _))
      replace Hr18 := Lib.hid (Hr18.out.below hb (Nat.le_refl _))
      replace Hr19 := Lib.hid (Hr19.out.below hb (Nat.le_refl _))
      replace Hr20 := Lib.hid (Hr20.out.below hb (Nat.le_refl _))
      replace Hr21 := Lib.hid (Hr21.out.below hb (Nat.le_refl _))
      replace Hr22 := Lib.hid (Hr22.out.below hb (Nat.le_refl _))
      replace XE := Lib.hid (r_box XE.out hb)
      replace HB := Lib.hid (HB.out.trans (hb.mono HB.out.size))
      clear hb
      clear Hr19
      clear Hr22
      go_wp2_with fail
      refine (do_Minus HSa.out HSb.out Ha.out Hb.out XE.out).mono ?_
      rintro e w40 ⟨⟨vr23, rfl, hown⟩, hb⟩
      replace Ha := Lib.hid (Ha.out.below hb (Nat.le_refl _))
      replace Hb := Lib.hid (Hb.out.below hb (Nat.le_refl _))
      replace Hc := Lib.hid (Hc.out.below hb (Nat.le_refl _))
      replace HX := Lib.hid (HX.out.below hb (Nat.le_refl _))
      replace Hmade := Lib.hid (Hmade.out.below hb (Nat.le_refl _))
      replace Hr5 := Lib.hid (Hr5.out.below hb (Nat.le_refl _))
      replace Hr7 := Lib.hid (Hr7.out.below hb (Nat.le_refl _))
      replace Hr9 := Lib.hid (Hr9.out.below hb (Nat.le_refl _))
      replace Hr11 := Lib.hid (Hr11.out.below hb (Nat.le_refl _))
      replace Hr13 := Lib.hid (Hr13.out.below hb (Nat.le_refl _))
      replace Hr15 := Lib.hid (Hr15.out.below hb (Nat.le_refl _))
      replace Hr16 := Lib.hid (Hr16.out.below hb (Nat.le_refl _))
      replace Hr18 := Lib.hid (Hr18.out.below hb (Nat.le_refl _))
      replace Hr20 := Lib.hid (Hr20.out.below hb (Nat.le_refl _))
      replace Hr21 := Lib.hid (Hr21.out.below hb (Nat.le_refl _))
      replace XE := Lib.hid (r_box XE.out hb)
      replace HB := Lib.hid (HB.out.trans (hb.mono HB.out.size))
      have Hr23 := Lib.hid (Spn.of_owns hown (by have := ((comb_spec opD rfl HSa.out HSb.out).1).length; omega))
      clear hown
      clear hb
      go_wp2_with fail
      refine (do_Meet HSa.out HSb.out Ha.out Hb.out XE.out).mono ?_
      rintro e w41 ⟨⟨vr24, rfl, hown⟩, hb⟩
      replace Ha := Lib.hid (Ha.out.below hb (Nat.le_refl _))
      replace Hb := Lib.hid (Hb.out.below hb (Nat.le_refl _))
      replace Hc := Lib.hid (Hc.out.below hb (Nat.le_refl _))
      replace HX := Lib.hid (HX.out.below hb (Nat.le_refl _))
      replace Hmade := Lib.hid (Hmade.out.below hb (Nat.le_refl _))
      replace Hr5 := Lib.hid (Hr5.out.below hb (Nat.le_refl _))
      replace Hr7 := Lib.hid (Hr7.out.below hb (Nat.le_refl _))
      replace Hr9 := Lib.hid (Hr9.out.below hb (Nat.le_refl _))
      replace Hr11 := Lib.hid (Hr11.out.below hb (Nat.le_refl _))
      replace Hr13 := Lib.hid (Hr13.out.below hb (Nat.le_refl _))
      replace Hr15 := Lib.hid (Hr15.out.below hb (Nat.le_refl _))
      replace Hr16 := Lib.hid (Hr16.out.below hb (Nat.le_refl _))
      replace Hr18 := Lib.hid (Hr18.out.below hb (Nat.le_refl _))
      replace Hr20 := Lib.hid (Hr20.out.below hb (Nat.le_refl _))
      replace Hr21 := Lib.hid (Hr21.out.below hb (Nat.le_refl _))
      replace Hr23 := Lib.hid (Hr23.out.below hb (Nat.le_refl _))
      replace XE := Lib.hid (r_box XE.out hb)
      replace HB := Lib.hid (HB.out.trans (hb.mono HB.out.size))
      have Hr24 := Lib.hid (Spn.of_owns hown (by have := ((comb_spec opM rfl HSa.out HSb.out).1).length; omega))
      clear hown
      clear hb
      go_wp2_with fail
      refine (do_Minus HSa.out ((comb_spec opM rfl HSa.out HSb.out).1) Ha.out Hr24.out XE.out).mono ?_
      rintro e w42 ⟨⟨vr25, rfl, hown⟩, hb⟩
      replace Ha := Lib.hid (Ha.out.below hb (Nat.le_refl _))
      replace Hb := Lib.hid (Hb.out.below hb (Nat.le_refl _))
      replace Hc := Lib.hid (Hc.out.below hb (Nat.le_refl _))
      replace HX := Lib.hid (HX.out.below hb (Nat.le_refl _))
      replace Hmade := Lib.hid (Hmade.out.below hb (Nat.le_refl _))
      replace Hr5 := Lib.hid (Hr5.out.below hb (Nat.le_refl _))
      replace Hr7 := Lib.hid (Hr7.out.below hb (Nat.le_refl _))
      replace Hr9 := Lib.hid (Hr9.out.below hb (Nat.le_refl _))
      replace Hr11 := Lib.hid (Hr11.out.below hb (Nat.le_refl _))
      replace Hr13 := Lib.hid (Hr13.out.below hb (Nat.le_refl _))
      replace Hr15 := Lib.hid (Hr15.out.below hb (Nat.le_refl _))
      replace Hr16 := Lib.hid (Hr16.out.below hb (Nat.le_refl _))
      replace Hr18 := Lib.hid (Hr18.out.below hb (Nat.le_refl _))
      replace Hr20 := Lib.hid (Hr20.out.below hb (Nat.le_refl _))
      replace Hr21 := Lib.hid (Hr21.out.below hb (Nat.le_refl _))
      replace Hr23 := Lib.hid (Hr23.out.below hb (Nat.le_refl _))
      replace Hr24 := Lib.hid (Hr24.out.below hb (Nat.le_refl _))
      replace XE := Lib.hid (r_box XE.out hb)
      replace HB := Lib.hid (HB.out.trans (hb.mono HB.out.size))
      have Hr25 := Lib.hid (Spn.of_owns hown (by have := ((comb_spec opD rfl HSa.out ((comb_spec opM rfl HSa.out HSb.out).1)).1).length; omega))
      clear hown
      clear hb
      go_wp2_with fail
      refine (Same_eq EQ.out.e7 Hr23.out Hr25.out).mono ?_
      rintro e w43 ⟨rfl, hb⟩
      replace Ha := Lib.hid (Ha.out.below hb (Nat.le_refl _))
      replace Hb := Lib.hid (Hb.out.below hb (Nat.le_refl _))
      replace Hc := Lib.hid (Hc.out.below hb (Nat.le_refl _))
      replace HX := Lib.hid (HX.out.below hb (Nat.le_refl _))
      replace Hmade := Lib.hid (Hmade.out.below hb (Nat.le_refl _))
      replace Hr5 := Lib.hid (Hr5.out.below hb (Nat.le_refl _))
      replace Hr7 := Lib.hid (Hr7.out.below hb (Nat.le_refl _))
      replace Hr9 := Lib.hid (Hr9.out.below hb (Nat.le_refl _))
      replace Hr11 := Lib.hid (Hr11.out.below hb (Nat.le_refl _))
      replace Hr13 := Lib.hid (Hr13.out.below hb (Nat.le_refl _))
      replace Hr15 := Lib.hid (Hr15.out.below hb (Nat.le_refl _))
      replace Hr16 := Lib.hid (Hr16.out.below hb (Nat.le_refl _))
      replace Hr18 := Lib.hid (Hr18.out.below hb (Nat.le_refl _))
      replace Hr20 := Lib.hid (Hr20.out.below hb (Nat.le_refl _))
      replace Hr21 := Lib.hid (Hr21.out.below hb (Nat.le_refl _))
      replace Hr23 := Lib.hid (Hr23.out.below hb (Nat.le_refl _))
      replace Hr24 := Lib.hid (Hr24.out.below hb (Nat.le_refl _))
      replace Hr25 := Lib.hid (Hr25.out.below hb (Nat.le_refl _))
      replace XE := Lib.hid (r_box XE.out hb)
      replace HB := Lib.hid (HB.out.trans (hb.mono HB.out.size))
      clear hb
      clear Hr23
      clear Hr25
      go_wp2_with fail
      refine (do_Union HSa.out HSb.out Ha.out Hb.out XE.out).mono ?_
      rintro e w44 ⟨⟨vr26, rfl, hown⟩, hb⟩
      replace Ha := Lib.hid (Ha.out.below hb (Nat.le_refl _))
      replace Hb := Lib.hid (Hb.out.below hb (Nat.le_refl _))
      replace Hc := Lib.hid (Hc.out.below hb (Nat.le_refl _))
      replace HX := Lib.hid (HX.out.below hb (Nat.le_refl _))
      replace Hmade := Lib.hid (Hmade.out.below hb (Nat.le_refl _))
      replace Hr5 := Lib.hid (Hr5.out.below hb (Nat.le_refl _))
      replace Hr7 := Lib.hid (Hr7.out.below hb (Nat.le_refl _))
      replace Hr9 := Lib.hid (Hr9.out.below hb (Nat.le_refl _))
      replace Hr11 := Lib.hid (Hr11.out.below hb (Nat.le_refl _))
      replace Hr13 := Lib.hid (Hr13.out.below hb (Nat.le_refl _))
      replace Hr15 := Lib.hid (Hr15.out.below hb (Nat.le_refl _))
      replace Hr16 := Lib.hid (Hr16.out.below hb (Nat.le_refl _))
      replace Hr18 := Lib.hid (Hr18.out.below hb (Nat.le_refl _))
      replace Hr20 := Lib.hid (Hr20.out.below hb (Nat.le_refl _))
      replace Hr21 := Lib.hid (Hr21.out.below hb (Nat.le_refl _))
      replace Hr24 := Lib.hid (Hr24.out.below hb (Nat.le_refl _))
      replace XE := Lib.hid (r_box XE.out hb)
      replace HB := Lib.hid (HB.out.trans (hb.mono HB.out.size))
      have Hr26 := Lib.hid (Spn.of_owns hown (by have := ((comb_spec opU rfl HSa.out HSb.out).1).length; omega))
      clear hown
      clear hb
      go_wp2_with fail
      refine (Same_eq rfl Hmade.out Hr26.out).mono ?_
      rintro e w45 ⟨rfl, hb⟩
      replace Ha := Lib.hid (Ha.out.below hb (Nat.le_refl _))
      replace Hb := Lib.hid (Hb.out.below hb (Nat.le_refl _))
      replace Hc := Lib.hid (Hc.out.below hb (Nat.le_refl _))
      replace HX := Lib.hid (HX.out.below hb (Nat.le_refl _))
      replace Hmade := Lib.hid (Hmade.out.below hb (Nat.le_refl _))
      replace Hr5 := Lib.hid (Hr5.out.below hb (Nat.le_refl _))
      replace Hr7 := Lib.hid (Hr7.out.below hb (Nat.le_refl _))
      replace Hr9 := Lib.hid (Hr9.out.below hb (Nat.le_refl _))
      replace Hr11 := Lib.hid (Hr11.out.below hb (Nat.le_refl _))
      replace Hr13 := Lib.hid (Hr13.out.below hb (Nat.le_refl _))
      replace Hr15 := Lib.hid (Hr15.out.below hb (Nat.le_refl _))
      replace Hr16 := Lib.hid (Hr16.out.below hb (Nat.le_refl _))
      replace Hr18 := Lib.hid (Hr18.out.below hb (Nat.le_refl _))
      replace Hr20 := Lib.hid (Hr20.out.below hb (Nat.le_refl _))
      replace Hr21 := Lib.hid (Hr21.out.below hb (Nat.le_refl _))
      replace Hr24 := Lib.hid (Hr24.out.below hb (Nat.le_refl _))
      replace Hr26 := Lib.hid (Hr26.out.below hb (Nat.le_refl _))
      replace XE := Lib.hid (r_box XE.out hb)
      replace HB := Lib.hid (HB.out.trans (hb.mono HB.out.size))
      clear hb
      clear Hr26
      have cE := XE.out.cell
      go_wp2
      go_ret
      exact ⟨rfl, HB.out⟩

end Go.Proofs.Ytppihnliimbakaa
