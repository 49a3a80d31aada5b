/-
'SpanAlgebra': which days are in the union, the meet and the difference.
-/
import Derived.Test.YtppihnliimbakaaGaps
namespace Go.Proofs.Ytppihnliimbakaa
open Go.RowKit Go.Shelf Sp

theorem Try.infoI : (Try.prog.info? 3).map (fun i => (i.zero, i.size, i.bytes)) = some (some (.int .i64 0), 1, 8) := by kernel_rfl
def cellsI (D : List Int) : List Value := D.map fun d => .int .i64 d
theorem cellsI_length (D : List Int) : (cellsI D).length = D.length := by simp [cellsI]
theorem cellsI_append (a b : List Int) : cellsI (a ++ b) = cellsI a ++ cellsI b := by simp [cellsI]
theorem cellsI_get (D : List Int) (j : Nat) (h : j < D.length) : (cellsI D)[j]? = some (.int .i64 (D[j]?.getD 0)) := by simp [cellsI, h]
theorem own_lit_int (W : World) (base : Nat) (hb : base ≤ W.heap.size) (d : Int) : (W.alloc (.cells #[.int .i64 d] 3)).ownsRow base 3 1 (.slice (some ⟨W.heap.size, 0, none⟩) 1 1) 1 (cellsI [d]) :=
  ⟨rfl, .inr ⟨W.heap.size, 1, #[.int .i64 d], rfl, hb, World.alloc_heap_new W _, Nat.le_refl _, by unfold maxLen; omega, rfl, rfl⟩⟩
theorem Bx.not_row {W : World} {T e : TypeId} {B : Nat} {x y : Value} (h : Bx T W B x y) (hte : T ≠ e) {base size k : Nat} {v : Value} {xs : List Value} (hr : W.ownsRow base e size v k xs) : some B ≠ v.ownBlock := by
  rcases hr.2 with ⟨rfl, _⟩ | ⟨g, cap, cur, rfl, _, hgb, _⟩
  · simp [Value.ownBlock]
  · intro e'
    obtain rfl : B = g := by simpa [Value.ownBlock] using e'
    have := (show W.heap[B]? = _ from h).symm.trans hgb
    simp at this
    exact hte this.2
theorem cell_four_new (w : World) (x y z u : Value) (T : TypeId) : ∀ j v, [x, y, z, u][j]? = some v → (w.alloc (.cells #[x, y, z, u] T)).cell? ((⟨w.heap.size, 0, none⟩ : Addr).add j) = some v := by
  intro j v h
  rw [add_eq, Nat.zero_add]
  match j, h with
  | 0, h => simp at h; subst h; simp
  | 1, h => simp at h; subst h; simp
  | 2, h => simp at h; subst h; simp
  | 3, h => simp at h; subst h; simp

theorem Union_is {va vb : Value} {a b r : L} {w : World} (ha : IsSet a) (hb : IsSet b) (hr : comb opU a b = r) (hla : Spn w va a) (hlb : Spn w vb b) : Calls Try.prog 16 #[va, vb] w (Gives r w) := by
  have := Union_ok va vb a b ha hb w hla hlb
  rwa [hr] at this
theorem Meet_is {va vb : Value} {a b r : L} {w : World} (ha : IsSet a) (hb : IsSet b) (hr : comb opM a b = r) (hla : Spn w va a) (hlb : Spn w vb b) : Calls Try.prog 17 #[va, vb] w (Gives r w) := by
  have := Meet_ok va vb a b ha hb w hla hlb
  rwa [hr] at this
theorem own_slice {W : World} {b : Nat} {e : TypeId} {s : Nat} {v : Value} {n : Nat} {xs : List Value} (h : W.ownsRow b e s v n xs) : ∃ a n c, v = .slice a n c := by
  rcases h.2 with ⟨rfl, _⟩ | ⟨g, cap, cur, rfl, _⟩
  · exact ⟨_, _, _, rfl⟩
  · exact ⟨_, _, _, rfl⟩
theorem own_len {W : World} {b : Nat} {e : TypeId} {s : Nat} {a : Option Addr} {m c : Nat} {n : Nat} {xs : List Value} (h : W.ownsRow b e s (.slice a m c) n xs) : m = n := by
  rcases h.2 with ⟨h', h0⟩ | ⟨g, cap, cur, h', _⟩
  · simp at h'; omega
  · simp at h'; exact h'.2.1
theorem looks_cell {W : World} {b : Nat} {a : Option Addr} {c : Nat} {D : List Int} (h : W.ownsRow b 3 1 (.slice a D.length c) D.length (cellsI D)) {q : Nat} (hq : q < D.length) :
    ∃ g, a = some ⟨g, 0, none⟩ ∧ g < W.heap.size ∧ W.cell? ⟨g, q, none⟩ = some (.int .i64 (D[q]?.getD 0)) := by
  rcases h.2 with ⟨_, h0⟩ | ⟨g, cap, cur, e, _⟩
  · omega
  · cases e
    have hl := (h.lt g rfl).2
    have := h.cellAt q (by omega)
    rw [cellsI_get D q hq] at this
    exact ⟨g, rfl, hl, this⟩

/-- The numbers that are looked at. -/
def Looks (B : Nat) (W : World) (v : Value) (D : List Int) : Prop := W.ownsRow B 3 1 v D.length (cellsI D)

set_option maxRecDepth 100000 in
set_option maxHeartbeats 40000000 in
theorem SpanAlgebra_walk (s t : Value) (m n : List Nat) (day : Int) (_hd : -9223372036854775808 ≤ day ∧ day ≤ 9223372036854775807) (w : World) (hm : Lm m) (h : Lim w s m) (hn : Lm n) (g : Lim w t n) :
    Calls Try.prog 5 #[s, t, .int .i64 day] w (Says (.bool true) w) := by
  have HB := Lib.hid (Below.refl w.heap.size w)
  have HM := Lib.hid hm
  have HN := Lib.hid hn
  have HI := Lib.hid h
  have HJ := Lib.hid g
  obtain ⟨aa, cc, rfl, -⟩ := h
  obtain ⟨bb, dd, rfl, -⟩ := g
  obtain ⟨i0, hi, hz0, hz1, hz2⟩ := info_parts Try.infoI
  clear hm hn
  go_enter Try.func5, Try.ntmps5
  go_wp2_with fail
  refine (awake_any _).mono ?_
  rintro e w1 ⟨rfl, hb⟩
  replace HB := Lib.hid (HB.out.trans (hb.mono HB.out.size))
  clear hb
  go_wp2_with fail
  refine (Built_any _ _ HM.out w1 (HI.out.below HB.out (Nat.le_refl _))).mono ?_
  rintro e w2 ⟨⟨va, la, rfl, hset, h60, hown⟩, hb⟩
  replace HB := Lib.hid (HB.out.trans (hb.mono HB.out.size))
  have HSa := Lib.hid hset
  have Ha := Lib.hid (Spn.of_owns hown (by omega))
  have HLa := Lib.hid h60
  clear hset hown h60
  clear hb
  obtain ⟨aa1, ca, rfl⟩ := spn_slice Ha.out
  go_wp2_with fail
  refine (Built_any _ _ HN.out w2 (HJ.out.below HB.out (Nat.le_refl _))).mono ?_
  rintro e w3 ⟨⟨vb, lb, rfl, hset, h60, hown⟩, hb⟩
  replace Ha := Lib.hid (Ha.out.below hb (Nat.le_refl _))
  replace HB := Lib.hid (HB.out.trans (hb.mono HB.out.size))
  have HSb := Lib.hid hset
  have Hb := Lib.hid (Spn.of_owns hown (by omega))
  have HLb := Lib.hid h60
  clear hset hown h60
  clear hb
  obtain ⟨ab, cb, rfl⟩ := spn_slice Hb.out
  have sU := (comb_spec opU rfl HSa.out HSb.out).1
  have sM := (comb_spec opM rfl HSa.out HSb.out).1
  have sD := (comb_spec opD rfl HSa.out HSb.out).1
  have mU := memB_comb (op := opU) rfl HSa.out HSb.out
  have mM := memB_comb (op := opM) rfl HSa.out HSb.out
  have mD := memB_comb (op := opD) rfl HSa.out HSb.out
  obtain ⟨lu, hu⟩ : ∃ x, comb opU la lb = x := ⟨_, rfl⟩
  obtain ⟨lv, hv⟩ : ∃ x, comb opM la lb = x := ⟨_, rfl⟩
  obtain ⟨lw, hw⟩ : ∃ x, comb opD la lb = x := ⟨_, rfl⟩
  rw [hu] at sU mU
  rw [hv] at sM mM
  rw [hw] at sD mD
  have HSu := Lib.hid sU
  have HSv := Lib.hid sM
  have HSw := Lib.hid sD
  have MU := Lib.hid mU
  have MM := Lib.hid mM
  have MD := Lib.hid mD
  have EU := Lib.hid hu
  have EM := Lib.hid hv
  have ED := Lib.hid hw
  clear sU sM sD mU mM mD hu hv hw
  go_wp2_with fail
  refine (Union_is HSa.out HSb.out EU.out Ha.out Hb.out).mono ?_
  rintro e w4 ⟨⟨vu, rfl, hown⟩, hb⟩
  replace Ha := Lib.hid (Ha.out.below hb (Nat.le_refl _))
  replace Hb := Lib.hid (Hb.out.below hb (Nat.le_refl _))
  replace HB := Lib.hid (HB.out.trans (hb.mono HB.out.size))
  have Hu := Lib.hid (Spn.of_owns hown (by have := HSu.out.length; omega))
  clear hown
  clear hb
  obtain ⟨au, cu, rfl⟩ := spn_slice Hu.out
  go_wp2_with fail
  refine (Meet_is HSa.out HSb.out EM.out Ha.out Hb.out).mono ?_
  rintro e w5 ⟨⟨vv, rfl, hown⟩, hb⟩
  replace Ha := Lib.hid (Ha.out.below hb (Nat.le_refl _))
  replace Hb := Lib.hid (Hb.out.below hb (Nat.le_refl _))
  replace Hu := Lib.hid (Hu.out.below hb (Nat.le_refl _))
  replace HB := Lib.hid (HB.out.trans (hb.mono HB.out.size))
  have Hv := Lib.hid (Spn.of_owns hown (by have := HSv.out.length; omega))
  clear hown
  clear hb
  obtain ⟨av, cv, rfl⟩ := spn_slice Hv.out
  go_wp2_with fail
  refine (Minus_is HSa.out HSb.out ED.out Ha.out Hb.out).mono ?_
  rintro e w6 ⟨⟨vw, rfl, hown⟩, hb⟩
  replace Ha := Lib.hid (Ha.out.below hb (Nat.le_refl _))
  replace Hb := Lib.hid (Hb.out.below hb (Nat.le_refl _))
  replace Hu := Lib.hid (Hu.out.below hb (Nat.le_refl _))
  replace Hv := Lib.hid (Hv.out.below hb (Nat.le_refl _))
  replace HB := Lib.hid (HB.out.trans (hb.mono HB.out.size))
  have Hw := Lib.hid (Spn.of_owns hown (by have := HSw.out.length; omega))
  clear hown
  clear hb
  obtain ⟨aw, cw, rfl⟩ := spn_slice Hw.out
  go_wp2_with fail
  refine (Valid_is ((vldB_iff _).2 HSu.out) Hu.out).mono ?_
  rintro e w7 ⟨rfl, hb⟩
  replace Ha := Lib.hid (Ha.out.below hb (Nat.le_refl _))
  replace Hb := Lib.hid (Hb.out.below hb (Nat.le_refl _))
  replace Hu := Lib.hid (Hu.out.below hb (Nat.le_refl _))
  replace Hv := Lib.hid (Hv.out.below hb (Nat.le_refl _))
  replace Hw := Lib.hid (Hw.out.below hb (Nat.le_refl _))
  replace HB := Lib.hid (HB.out.trans (hb.mono HB.out.size))
  clear hb
  go_wp2_with fail
  refine (Valid_is ((vldB_iff _).2 HSv.out) Hv.out).mono ?_
  rintro e w8 ⟨rfl, hb⟩
  replace Ha := Lib.hid (Ha.out.below hb (Nat.le_refl _))
  replace Hb := Lib.hid (Hb.out.below hb (Nat.le_refl _))
  replace Hu := Lib.hid (Hu.out.below hb (Nat.le_refl _))
  replace Hv := Lib.hid (Hv.out.below hb (Nat.le_refl _))
  replace Hw := Lib.hid (Hw.out.below hb (Nat.le_refl _))
  replace HB := Lib.hid (HB.out.trans (hb.mono HB.out.size))
  clear hb
  go_wp2_with fail
  refine (Valid_is ((vldB_iff _).2 HSw.out) Hw.out).mono ?_
  rintro e w9 ⟨rfl, hb⟩
  replace Ha := Lib.hid (Ha.out.below hb (Nat.le_refl _))
  replace Hb := Lib.hid (Hb.out.below hb (Nat.le_refl _))
  replace Hu := Lib.hid (Hu.out.below hb (Nat.le_refl _))
  replace Hv := Lib.hid (Hv.out.below hb (Nat.le_refl _))
  replace Hw := Lib.hid (Hw.out.below hb (Nat.le_refl _))
  replace HB := Lib.hid (HB.out.trans (hb.mono HB.out.size))
  clear hb
  have L0 := Lib.hid ((own_lit_int w9 w9.heap.size (Nat.le_refl _) day).alloc (.cells #[.slice aa1 la.length ca, .slice ab lb.length cb] 22))
  have YY := Lib.hid (Bx.new 22 (w9.alloc (.cells #[.int .i64 day] 3)) (.slice aa1 la.length ca) (.slice ab lb.length cb))
  have HBa := Lib.hid (((Below.refl w9.heap.size w9).alloc (Nat.le_refl _) (.cells #[.int .i64 day] 3)).alloc (by simp) (.cells #[.slice aa1 la.length ca, .slice ab lb.length cb] 22))
  have ha60 := HLa.out
  have hb60 := HLb.out
  go_wp2_with fail
  have YN := YY.out
  rw [World.size_alloc] at YN
  have HY := Lib.hid YN
  obtain ⟨N, hN⟩ : ∃ N, w9.heap.size + 1 = N := ⟨_, rfl⟩
  rw [hN] at HY ⊢
  clear YN YY hN
  go_loopw [15, 75] (fun lk i wr => ∃ (j : Nat) (D : List Int), j ≤ 2 ∧ i = .int .i64 j ∧ Hid (Looks w9.heap.size wr lk D) ∧ D.length ≤ 1 + 240 * j ∧ Hid (Bx 22 wr N (.slice aa1 la.length ca) (.slice ab lb.length cb)) ∧ Below w9.heap.size w9 wr) (fun _ i _ => 2 - (intOf i).toNat)
  case atStart => exact ⟨0, [day], by omega, rfl, L0, by simp, HY, HBa.out⟩
  case round =>
    clear L0 HBa HY
    obtain ⟨j, D, hj, rfl, HO, hD, HY, hbw⟩ := hrel
    have hj3 : j = 0 ∨ j = 1 ∨ j = 2 := by omega
    rcases hj3 with hj0 | hj0 | hj0
    · obtain ⟨y1, y2⟩ := HY.out.cells
      have j0 : ((j : Int) < 2) := by omega
      have jn : j = 0 := hj0
      subst jn
      clear hj
      go_wp2_with fail
      go_loopw [15, 81] (fun lk i wx => ∃ (q : Nat) (E : List Int), q ≤ la.length ∧ i = .int .i64 q ∧ Hid (Looks w9.heap.size wx lk E) ∧ E.length ≤ D.length + 4 * q ∧ Hid (Bx 22 wx N (.slice aa1 la.length ca) (.slice ab lb.length cb)) ∧ Below w9.heap.size w9 wx) (fun _ i _ => la.length - (intOf i).toNat)
      case atStart => exact ⟨0, D, Nat.zero_le _, rfl, HO, by omega, HY, hbw⟩
      case round =>
        clear HO HY hbw y1 y2
        obtain ⟨q, E, hq, rfl, HO, hE, HY, hbw⟩ := hrel
        by_cases hlt : q < la.length
        · obtain ⟨bb', ob, rfl, hbb, hc⟩ := Ha.out.block (by intro e; rw [e] at hlt; simp at hlt)
          have c1 := (hbw.cell (p := ⟨bb', ob + q * 2, none⟩) hbb).trans (hc q hlt).1
          have c2 := (hbw.cell (p := ⟨bb', ob + q * 2 + 1, none⟩) hbb).trans (hc q hlt).2
          have hx := HSa.out.get hlt
          rw [← getD_eq hlt] at hx
          obtain ⟨x, ex⟩ : ∃ x, x = (la[q]?.getD (0, 0)).1 := ⟨_, rfl⟩
          obtain ⟨y, ey⟩ : ∃ y, y = (la[q]?.getD (0, 0)).2 := ⟨_, rfl⟩
          rw [← ex] at c1 hx
          rw [← ey] at c2 hx
          obtain ⟨x1, x2, x3⟩ := hx
          clear ex ey hc
          have hO1 := Lib.hid (HO.out.alloc (.cells #[.int .i64 x, .int .i64 y] 34))
          have hY1 := Lib.hid (HY.out.alloc (.cells #[.int .i64 x, .int .i64 y] 34))
          have hB1 := Lib.hid (hbw.alloc hbw.size (.cells #[.int .i64 x, .int .i64 y] 34))
          have c4 := cell_four_new (wr.alloc (.cells #[.int .i64 x, .int .i64 y] 34)) (.int .i64 (x - 1)) (.int .i64 x) (.int .i64 (y - 1)) (.int .i64 y) 3
          rw [World.size_alloc] at c4
          have C4 := Lib.hid c4
          have hsz := hbw.size
          have hs1 : w9.heap.size ≤ (wr.alloc (.cells #[.int .i64 x, .int .i64 y] 34)).heap.size := by simp; omega
          have hEl : E.length ≤ 1000 := by omega
          clear hbw HO HY c4
          go_wp2_with (at_builtin; refine wpList_append_own _ rfl _ _ 31 rfl w9.heap.size 3 i0 (.int .i64 0) 1 8 Try.underlying31 hi hz0 hz1 hz2 rfl (by decide) _ _ _ rfl (hO1.out.alloc _) ⟨wr.heap.size + 1, 0, none⟩ 4 4 [.int .i64 (x - 1), .int .i64 x, .int .i64 (y - 1), .int .i64 y] rfl rfl C4.out (by simp [Value.oneCell']) (by unfold maxLen; omega) (by omega) (by simp; omega) ?_; intro v' w4 hown' hgrow _)
          have HE := Lib.hid ((hB1.out.alloc hs1 (.cells #[.int .i64 (x - 1), .int .i64 x, .int .i64 (y - 1), .int .i64 y] 3)).grown hgrow (by simp; omega) (fun k e => (hO1.out.lt k e).1))
          have HY := Lib.hid (Bx_kept (hY1.out.alloc (.cells #[.int .i64 (x - 1), .int .i64 x, .int .i64 (y - 1), .int .i64 y] 3)) hgrow (hY1.out.not_row (by decide) hO1.out))
          have HO : Hid (Looks w9.heap.size w4 v' (E ++ [x - 1, x, y - 1, y])) := Lib.hid (by unfold Looks; rw [cellsI_append, List.length_append]; exact hown')
          clear hown' hgrow
          go_wp2
          go_roundw
          case rel => exact ⟨q + 1, E ++ [x - 1, x, y - 1, y], by omega, by go_num, HO, by simp; omega, HY, HE.out⟩
          case measure => simp [intOf]; omega
        · have q1 : ¬ (q : Int) < (la.length : Int) := by omega
          go_wp2
          go_roundw
          case rel => exact ⟨0 + 1, E, by omega, by go_num, HO, by omega, HY, hbw⟩
          case measure => simp [intOf]
    · obtain ⟨y1, y2⟩ := HY.out.cells
      have j0 : ((j : Int) < 2) := by omega
      have jn : j = 1 := hj0
      subst jn
      clear hj
      go_wp2_with fail
      go_loopw [15, 81] (fun lk i wx => ∃ (q : Nat) (E : List Int), q ≤ lb.length ∧ i = .int .i64 q ∧ Hid (Looks w9.heap.size wx lk E) ∧ E.length ≤ D.length + 4 * q ∧ Hid (Bx 22 wx N (.slice aa1 la.length ca) (.slice ab lb.length cb)) ∧ Below w9.heap.size w9 wx) (fun _ i _ => lb.length - (intOf i).toNat)
      case atStart => exact ⟨0, D, Nat.zero_le _, rfl, HO, by omega, HY, hbw⟩
      case round =>
        clear HO HY hbw y1 y2
        obtain ⟨q, E, hq, rfl, HO, hE, HY, hbw⟩ := hrel
        by_cases hlt : q < lb.length
        · obtain ⟨bb', ob, rfl, hbb, hc⟩ := Hb.out.block (by intro e; rw [e] at hlt; simp at hlt)
          have c1 := (hbw.cell (p := ⟨bb', ob + q * 2, none⟩) hbb).trans (hc q hlt).1
          have c2 := (hbw.cell (p := ⟨bb', ob + q * 2 + 1, none⟩) hbb).trans (hc q hlt).2
          have hx := HSb.out.get hlt
          rw [← getD_eq hlt] at hx
          obtain ⟨x, ex⟩ : ∃ x, x = (lb[q]?.getD (0, 0)).1 := ⟨_, rfl⟩
          obtain ⟨y, ey⟩ : ∃ y, y = (lb[q]?.getD (0, 0)).2 := ⟨_, rfl⟩
          rw [← ex] at c1 hx
          rw [← ey] at c2 hx
          obtain ⟨x1, x2, x3⟩ := hx
          clear ex ey hc
          have hO1 := Lib.hid (HO.out.alloc (.cells #[.int .i64 x, .int .i64 y] 34))
          have hY1 := Lib.hid (HY.out.alloc (.cells #[.int .i64 x, .int .i64 y] 34))
          have hB1 := Lib.hid (hbw.alloc hbw.size (.cells #[.int .i64 x, .int .i64 y] 34))
          have c4 := cell_four_new (wr.alloc (.cells #[.int .i64 x, .int .i64 y] 34)) (.int .i64 (x - 1)) (.int .i64 x) (.int .i64 (y - 1)) (.int .i64 y) 3
          rw [World.size_alloc] at c4
          have C4 := Lib.hid c4
          have hsz := hbw.size
          have hs1 : w9.heap.size ≤ (wr.alloc (.cells #[.int .i64 x, .int .i64 y] 34)).heap.size := by simp; omega
          have hEl : E.length ≤ 1000 := by omega
          clear hbw HO HY c4
          go_wp2_with (at_builtin; refine wpList_append_own _ rfl _ _ 31 rfl w9.heap.size 3 i0 (.int .i64 0) 1 8 Try.underlying31 hi hz0 hz1 hz2 rfl (by decide) _ _ _ rfl (hO1.out.alloc _) ⟨wr.heap.size + 1, 0, none⟩ 4 4 [.int .i64 (x - 1), .int .i64 x, .int .i64 (y - 1), .int .i64 y] rfl rfl C4.out (by simp [Value.oneCell']) (by unfold maxLen; omega) (by omega) (by simp; omega) ?_; intro v' w4 hown' hgrow _)
          have HE := Lib.hid ((hB1.out.alloc hs1 (.cells #[.int .i64 (x - 1), .int .i64 x, .int .i64 (y - 1), .int .i64 y] 3)).grown hgrow (by simp; omega) (fun k e => (hO1.out.lt k e).1))
          have HY := Lib.hid (Bx_kept (hY1.out.alloc (.cells #[.int .i64 (x - 1), .int .i64 x, .int .i64 (y - 1), .int .i64 y] 3)) hgrow (hY1.out.not_row (by decide) hO1.out))
          have HO : Hid (Looks w9.heap.size w4 v' (E ++ [x - 1, x, y - 1, y])) := Lib.hid (by unfold Looks; rw [cellsI_append, List.length_append]; exact hown')
          clear hown' hgrow
          go_wp2
          go_roundw
          case rel => exact ⟨q + 1, E ++ [x - 1, x, y - 1, y], by omega, by go_num, HO, by simp; omega, HY, HE.out⟩
          case measure => simp [intOf]; omega
        · have q1 : ¬ (q : Int) < (lb.length : Int) := by omega
          go_wp2
          go_roundw
          case rel => exact ⟨1 + 1, E, by omega, by go_num, HO, by omega, HY, hbw⟩
          case measure => simp [intOf]
    · have j2 : ¬ ((j : Int) < 2) := by omega
      subst hj0
      clear hj
      replace HB := Lib.hid (HB.out.trans (hbw.mono HB.out.size))
      replace Ha := Lib.hid (Ha.out.below hbw (Nat.le_refl _))
      replace Hb := Lib.hid (Hb.out.below hbw (Nat.le_refl _))
      replace Hu := Lib.hid (Hu.out.below hbw (Nat.le_refl _))
      replace Hv := Lib.hid (Hv.out.below hbw (Nat.le_refl _))
      replace Hw := Lib.hid (Hw.out.below hbw (Nat.le_refl _))
      clear hbw HY
      have hO := HO.out
      unfold Looks at hO
      obtain ⟨al, nl, cl, hvl⟩ := own_slice hO
      subst hvl
      have hnl : nl = D.length := own_len hO
      subst hnl
      go_wp2_with fail
      go_loopw [102] (fun i wx => ∃ q : Nat, q ≤ D.length ∧ i = .int .i64 q ∧ Below wr.heap.size wr wx) (fun i _ => D.length - (intOf i).toNat)
      case atStart => exact ⟨0, Nat.zero_le _, rfl, Below.refl _ _⟩
      case round =>
        obtain ⟨q, hq, rfl, hbw⟩ := hrel
        by_cases hlt : q < D.length
        · have q1 : (q : Int) < (D.length : Int) := by omega
          obtain ⟨g, rfl, hg, c1⟩ := looks_cell hO hlt
          replace c1 := (hbw.cell (p := ⟨g, q, none⟩) hg).trans c1
          obtain ⟨d, hd⟩ : ∃ d, d = D[q]?.getD 0 := ⟨_, rfl⟩
          rw [← hd] at c1
          clear hd
          have HBw := Lib.hid hbw
          have hbU := MU.out d
          have hbM := MM.out d
          have hbD := MD.out d
          obtain ⟨bx, hbx⟩ : ∃ r, memB la d = r := ⟨_, rfl⟩
          obtain ⟨bY, hbY⟩ : ∃ r, memB lb d = r := ⟨_, rfl⟩
          rw [hbx, hbY] at hbU hbM hbD
          have BX := Lib.hid hbx
          have BY := Lib.hid hbY
          have BU := Lib.hid hbU
          have BM := Lib.hid hbM
          have BD := Lib.hid hbD
          have HA1 := Lib.hid (Ha.out.below hbw (Nat.le_refl _))
          have HB1 := Lib.hid (Hb.out.below hbw (Nat.le_refl _))
          have HU1 := Lib.hid (Hu.out.below hbw (Nat.le_refl _))
          have HV1 := Lib.hid (Hv.out.below hbw (Nat.le_refl _))
          have HW1 := Lib.hid (Hw.out.below hbw (Nat.le_refl _))
          clear hbx hbY hbU hbM hbD hbw
          cases bx <;> cases bY
          all_goals
            go_wp2_with fail
            refine (in_is BX.out HA1.out).mono ?_
            rintro e w' ⟨rfl, rfl⟩
            go_wp2_with fail
            refine (in_is BY.out HB1.out).mono ?_
            rintro e w' ⟨rfl, rfl⟩
            go_wp2_with fail
            refine (in_is BU.out HU1.out).mono ?_
            rintro e w' ⟨rfl, rfl⟩
            go_wp2_with fail
            refine (in_is BM.out HV1.out).mono ?_
            rintro e w' ⟨rfl, rfl⟩
            go_wp2_with fail
            refine (in_is BD.out HW1.out).mono ?_
            rintro e w' ⟨rfl, rfl⟩
            go_wp2_with fail
            refine (Has_is HSa.out BX.out HA1.out).mono ?_
            rintro e w' ⟨rfl, hb⟩
            have HD := Lib.hid (HBw.out.trans (hb.mono HBw.out.size))
            clear hb
            go_wp2
            go_roundw
            case rel => exact ⟨q + 1, by omega, by go_num, HD.out⟩
            case measure => simp [intOf]; omega
        · have q1 : ¬ (q : Int) < (D.length : Int) := by omega
          have HD := Lib.hid (HB.out.trans (hbw.mono HB.out.size))
          clear hbw
          go_wp2
          go_ret
          exact ⟨rfl, HD.out⟩

end Go.Proofs.Ytppihnliimbakaa
