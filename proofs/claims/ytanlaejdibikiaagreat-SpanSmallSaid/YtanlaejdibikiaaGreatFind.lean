/-
The span of a day is looked for: find, Has, Nth.
-/
import Derived.Test.YtanlaejdibikiaaGreatFuns
namespace Go.Proofs.YtanlaejdibikiaaGreat
open Go.RowKit Go.Shelf Sp

set_option maxHeartbeats 1000000 in
theorem has1_yes (x y d : Int) (B : Nat) (h1 : x ≤ d) (h2 : d < y) (w : World) (hc : w.cell? ⟨B, 0, none⟩ = some (.int .i64 d)) : Calls Tryz.prog 53 #[.agg #[.int .i64 x, .int .i64 y], .pointer (some ⟨B, 0, none⟩)] w (Says (.bool true) w) := by
  have hB := lt_of_cell hc
  have hc2 := (World.cell?_alloc_lt w (.cells #[.int .i64 x, .int .i64 y] 31) ⟨B, 0, none⟩ hB).trans hc
  go_enter Tryz.func53, Tryz.ntmps53
  go_wp2
  go_ret
  exact ⟨rfl, (Below.refl _ _).alloc (Nat.le_refl _) _⟩
set_option maxHeartbeats 1000000 in
theorem has1_no (x y d : Int) (B : Nat) (h : ¬ (x ≤ d ∧ d < y)) (w : World) (hc : w.cell? ⟨B, 0, none⟩ = some (.int .i64 d)) : Calls Tryz.prog 53 #[.agg #[.int .i64 x, .int .i64 y], .pointer (some ⟨B, 0, none⟩)] w (Says (.bool false) w) := by
  have hB := lt_of_cell hc
  have hc2 := (World.cell?_alloc_lt w (.cells #[.int .i64 x, .int .i64 y] 31) ⟨B, 0, none⟩ hB).trans hc
  by_cases h1 : x ≤ d
  · have h2 : ¬ d < y := by omega
    clear h
    go_enter Tryz.func53, Tryz.ntmps53
    go_wp2
    go_ret
    exact ⟨rfl, (Below.refl _ _).alloc (Nat.le_refl _) _⟩
  · clear h
    go_enter Tryz.func53, Tryz.ntmps53
    go_wp2
    go_ret
    exact ⟨rfl, (Below.refl _ _).alloc (Nat.le_refl _) _⟩

theorem Bx.put {T : TypeId} {W : World} {B : Nat} {x y : Value} (h : Bx T W B x y) (v v' : Value) : Bx T ((W.setCell ⟨B, 0, none⟩ v).setCell ⟨B, 1, none⟩ v') B v v' := by
  have h1 : Bx T (W.setCell ⟨B, 0, none⟩ v) B v y := by
    obtain ⟨hlt, hk⟩ := Array.getElem?_eq_some_iff.1 h
    show (W.heap.modify B _)[B]? = _
    rw [Array.getElem?_eq_getElem (by rw [Array.size_modify]; exact hlt), Array.getElem_modify_self, hk]
    rfl
  obtain ⟨hlt, hk⟩ := Array.getElem?_eq_some_iff.1 h1
  show ((W.setCell ⟨B, 0, none⟩ v).heap.modify B _)[B]? = _
  rw [Array.getElem?_eq_getElem (by rw [Array.size_modify]; exact hlt), Array.getElem_modify_self, hk]
  rfl

theorem Bx.grown {T : TypeId} {W W' : World} {B : Nat} {x y : Value} {r : Nat} (h : Bx T W B x y) (hg : W.grownBy W' (some r)) (hne : B ≠ r) : Bx T W' B x y := (hg.block B h.lt (by intro e; cases e; exact hne rfl)).trans h
theorem below_of_grown {M : Nat} {W W' : World} {row : Option Nat} (hg : W.grownBy W' row) (hM : M ≤ W.heap.size) (hr : ∀ k, row = some k → M ≤ k) : Below M W W' := (Below.refl M W).grown hg hM hr
theorem boxed_other {W : World} {B B' : Nat} {t : TypeId} {v : Value} (h : Boxed W B t v) (hne : B ≠ B') (u : Value) : Boxed (W.setCell ⟨B', 0, none⟩ u) B t v := h.kept (grownBy_setCell' W B' u) (fun e => hne (by cases e; rfl))
theorem grownBy_put (W : World) (B o : Nat) (u : Value) : W.grownBy (W.setCell ⟨B, o, none⟩ u) (some B) := ⟨rfl, rfl, rfl, by simp [World.setCell], fun k hk hne => Below.heap_setCell _ _ _ _ (fun e => hne (by rw [e]))⟩

/-- A span of whatever content was handed back, with the answer. -/
def FoundB (r : Bool) (w : World) (e : Ending) (w' : World) : Prop := (∃ p q : Int, e = .returned (.tuple #[.agg #[.int .i64 p, .int .i64 q], .bool r])) ∧ Below w.heap.size w w'

set_option maxRecDepth 100000 in
set_option maxHeartbeats 4000000 in
theorem find_has (v : Value) (l : L) (d : Int) (B : Nat) (w : World) (h : Spn w v l) (hB : w.cell? ⟨B, 0, none⟩ = some (.int .i64 d)) :
    Calls Tryz.prog 49 #[v, .func (.func 53) #[] #[.pointer (some ⟨B, 0, none⟩)]] w (FoundB (memB l d) w) := by
  have h' := h
  obtain ⟨a, cap, rfl, hlc, ⟨hcm, hcl, hcn⟩, hcs⟩ := h'
  clear hcn hcs
  have HS := Lib.hid h
  have hBw := lt_of_cell hB
  dsimp only at hBw
  have HBC := Lib.hid hB
  clear h hB
  go_enter Tryz.func49, Tryz.ntmps49
  go_wp2
  have hr0 := Bx.new 31 w (.int .i64 0) (.int .i64 0)
  go_loopw [10] (fun i wr => ∃ k : Nat, k ≤ l.length ∧ i = .int .i64 k ∧ Below w.heap.size w wr ∧ Bx 31 wr w.heap.size (.int .i64 0) (.int .i64 0) ∧ Hid (memB (l.take k) d = false)) (fun i _ => l.length - (intOf i).toNat)
  case atStart => exact ⟨0, Nat.zero_le _, rfl, (Below.refl _ _).alloc (Nat.le_refl _) _, hr0, Lib.hid (by simpa using memB_nil d)⟩
  case round =>
    obtain ⟨k, hk, rfl, hb, hr, HM⟩ := hrel
    by_cases hlt : k < l.length
    · have hne : l ≠ [] := by intro e; rw [e] at hlt; simp at hlt
      obtain ⟨b, off, rfl, hbw, hc⟩ := HS.out.block hne
      have c1 := (hb.cell (p := ⟨b, off + k * 2, none⟩) hbw).trans (hc k hlt).1
      have c2 := (hb.cell (p := ⟨b, off + k * 2 + 1, none⟩) hbw).trans (hc k hlt).2
      have cB := (hb.cell (p := ⟨B, 0, none⟩) hBw).trans HBC.out
      have HN := Lib.hid (memB_take hlt d)
      have HG := Lib.hid (memB_get (d := d) hlt)
      obtain ⟨x, hx⟩ : ∃ x, x = (l[k]?.getD (0, 0)).1 := ⟨_, rfl⟩
      obtain ⟨y, hy⟩ : ∃ y, y = (l[k]?.getD (0, 0)).2 := ⟨_, rfl⟩
      rw [← hx] at c1 HN HG
      rw [← hy] at c2 HN HG
      clear hx hy hc
      have hsz : wr.heap.size < (wr.alloc (.cells #[.int .i64 x, .int .i64 y] 31)).heap.size := by simp
      have HB := Lib.hid (hb.alloc hb.size (.cells #[.int .i64 x, .int .i64 y] 31))
      have HR := Lib.hid (hr.alloc (.cells #[.int .i64 x, .int .i64 y] 31))
      have HX := Lib.hid (Bx.new 31 wr (.int .i64 x) (.int .i64 y))
      have HC := Lib.hid ((World.cell?_alloc_lt wr (.cells #[.int .i64 x, .int .i64 y] 31) ⟨B, 0, none⟩ (Nat.lt_of_lt_of_le hBw hb.size)).trans cB)
      by_cases hin : x ≤ d ∧ d < y
      · have HF := Lib.hid (HG.out hin.1 hin.2)
        have HW := Lib.hid (fun W => has1_yes x y d B hin.1 hin.2 W)
        clear hin hr cB
        go_wp2_with fail
        obtain ⟨W, hW⟩ : ∃ W, wr.alloc (.cells #[.int .i64 x, .int .i64 y] 31) = W := ⟨_, rfl⟩
        rw [hW] at HB HR HX HC hsz ⊢
        clear hW
        refine (HW.out _ HC.out).mono ?_
        rintro e w1 ⟨rfl, hb2⟩
        have hx1 := (HX.out.below hb2 hsz).cells
        have hr1 := HR.out.below hb2 HR.out.lt
        have hB1 := HB.out.trans (hb2.mono (Nat.le_of_lt HR.out.lt))
        obtain ⟨x1, x2⟩ := hx1
        clear hb2
        have hr2 := hr1.cells
        have hr3 := hr1.free
        obtain ⟨r1, r2⟩ := hr2
        obtain ⟨r3, r4⟩ := hr3
        have HP := Lib.hid (hr1.put (.int .i64 x) (.int .i64 y))
        have HE := Lib.hid ((hB1.setCell (p := ⟨w.heap.size, 0, none⟩) (Nat.le_refl _) (.int .i64 x)).setCell (p := ⟨w.heap.size, 1, none⟩) (Nat.le_refl _) (.int .i64 y))
        go_wp2
        obtain ⟨p1, p2⟩ := HP.out.cells
        refine bodyPost_ret (v := .tuple #[.agg #[.int .i64 x, .int .i64 y], .bool true]) (by simp [results, Tryz.results49, go_sem, p1, p2]) rfl ?_
        exact ⟨⟨x, y, by rw [HF.out]⟩, HE.out⟩
      · have HF : Hid (memB (l.take (k + 1)) d = false) := Lib.hid (by rw [HN.out, HM.out]; simp; omega)
        have HW := Lib.hid (fun W => has1_no x y d B hin W)
        clear hin hr cB
        go_wp2_with fail
        obtain ⟨W, hW⟩ : ∃ W, wr.alloc (.cells #[.int .i64 x, .int .i64 y] 31) = W := ⟨_, rfl⟩
        rw [hW] at HB HR HX HC hsz ⊢
        clear hW
        refine (HW.out _ HC.out).mono ?_
        rintro e w1 ⟨rfl, hb2⟩
        have hx1 := (HX.out.below hb2 hsz).cells
        have hr1 := HR.out.below hb2 HR.out.lt
        have hB1 := HB.out.trans (hb2.mono (Nat.le_of_lt HR.out.lt))
        obtain ⟨x1, x2⟩ := hx1
        clear hb2
        go_wp2
        go_roundw
        case rel => exact ⟨k + 1, by omega, by go_num, hB1, hr1, HF⟩
        case measure => simp [intOf]; omega
    · have e : l.take k = l := List.take_of_length_le (by omega)
      rw [e] at HM
      clear e
      have hr2 := hr.cells
      have hr3 := hr.free
      obtain ⟨r1, r2⟩ := hr2
      obtain ⟨r3, r4⟩ := hr3
      have HP := Lib.hid (hr.put (.int .i64 0) (.int .i64 0))
      have HE := Lib.hid ((hb.setCell (p := ⟨w.heap.size, 0, none⟩) (Nat.le_refl _) (.int .i64 0)).setCell (p := ⟨w.heap.size, 1, none⟩) (Nat.le_refl _) (.int .i64 0))
      go_wp2
      obtain ⟨p1, p2⟩ := HP.out.cells
      refine bodyPost_ret (v := .tuple #[.agg #[.int .i64 0, .int .i64 0], .bool false]) (by simp [results, Tryz.results49, go_sem, p1, p2]) rfl ?_
      exact ⟨⟨0, 0, by rw [HM.out]⟩, HE.out⟩

set_option maxRecDepth 100000 in
set_option maxHeartbeats 2000000 in
theorem Has_yes (v : Value) (l : L) (d : Int) (hl : IsSet l) (w : World) (h : Spn w v l) : Calls Tryz.prog 34 #[v, .int .i64 d] w (Says (.bool (memB l d)) w) := by
  have hv := fun W (hW : Below w.heap.size w W) => Valid_any v l W (h.below hW (Nat.le_refl _))
  rw [(vldB_iff l).2 hl] at hv
  have HV := Lib.hid hv
  have hf := fun W (hW : Below w.heap.size w W) B (hB : W.cell? ⟨B, 0, none⟩ = some (.int .i64 d)) => find_has v l d B W (h.below hW (Nat.le_refl _)) hB
  have HF := Lib.hid hf
  obtain ⟨a, cap, rfl, -⟩ := h
  clear hl hv hf
  obtain ⟨r, hr⟩ : ∃ r, memB l d = r := ⟨_, rfl⟩
  rw [hr] at HF ⊢
  clear hr
  have hb0 := (Below.refl w.heap.size w).alloc (Nat.le_refl _) (.cells #[.int .i64 d] 3)
  have bx := Boxed.new w 3 (.int .i64 d)
  go_enter Tryz.func34, Tryz.ntmps34
  go_wp2_with fail
  obtain ⟨W, hW⟩ : ∃ W, w.alloc (.cells #[.int .i64 d] 3) = W := ⟨_, rfl⟩
  rw [hW] at hb0 bx ⊢
  clear hW
  refine (HV.out _ hb0).mono ?_
  rintro e w1 ⟨rfl, hb1⟩
  have c1 := (hb1.cell (p := ⟨w.heap.size, 0, none⟩) bx.lt).trans bx.cell
  have HC := Lib.hid c1
  have HB := Lib.hid (hb0.trans (hb1.mono (Nat.le_of_lt bx.lt)))
  clear hb0 hb1 bx c1
  go_wp2_with fail
  refine (HF.out _ HB.out _ HC.out).mono ?_
  rintro e w2 ⟨⟨p, q, rfl⟩, hb2⟩
  have hb3 := HB.out.trans (hb2.mono (Nat.le_trans (HB.out.size) (Nat.le_refl _)))
  have HE := Lib.hid (hb3.alloc hb3.size (.cells #[.int .i64 p, .int .i64 q] 31))
  clear hb2 hb3
  go_wp2
  go_ret
  exact ⟨rfl, HE.out⟩

set_option maxHeartbeats 2000000 in
theorem Has_no (v : Value) (l : L) (d : Int) (hl : ¬ IsSet l) (w : World) (h : Spn w v l) : Calls Tryz.prog 34 #[v, .int .i64 d] w (Says (.bool false) w) := by
  have hv := fun W (hW : Below w.heap.size w W) => Valid_any v l W (h.below hW (Nat.le_refl _))
  rw [(vldB_not l).2 hl] at hv
  have HV := Lib.hid hv
  obtain ⟨a, cap, rfl, -⟩ := h
  clear hl hv
  have hb0 := Lib.hid ((Below.refl w.heap.size w).alloc (Nat.le_refl _) (.cells #[.int .i64 d] 3))
  have hz : w.heap.size ≤ (w.alloc (.cells #[.int .i64 d] 3)).heap.size := by simp
  go_enter Tryz.func34, Tryz.ntmps34
  go_wp2_with fail
  refine (HV.out _ hb0.out).mono ?_
  rintro e w1 ⟨rfl, hb1⟩
  have HE := Lib.hid (hb0.out.trans (hb1.mono hz))
  clear hb1 hz
  go_wp2
  go_ret
  exact ⟨rfl, HE.out⟩

theorem nthO_drop {l : L} {k : Nat} (hk : k < l.length) (r : Int) : nthO (l.drop k) r = if r < (l[k]?.getD (0, 0)).2 - (l[k]?.getD (0, 0)).1 then some ((l[k]?.getD (0, 0)).1 + r) else nthO (l.drop (k + 1)) (r - ((l[k]?.getD (0, 0)).2 - (l[k]?.getD (0, 0)).1)) := by
  rw [List.drop_eq_getElem_cons hk, getD_eq hk]; rfl

set_option maxHeartbeats 1000000 in
theorem nth1_yes (x y r : Int) (B : Nat) (_h0 : 0 ≤ x) (_h1 : x ≤ y) (_h2 : y ≤ 65536) (hr : r < y - x) (w : World) (hc : Boxed w B 3 (.int .i64 r)) : Calls Tryz.prog 50 #[.agg #[.int .i64 x, .int .i64 y], .pointer (some ⟨B, 0, none⟩)] w (fun e w' => e = .returned (.bool true) ∧ w.grownBy w' (some B) ∧ Boxed w' B 3 (.int .i64 r)) := by
  have HC := Lib.hid (hc.alloc (.cells #[.int .i64 x, .int .i64 y] 31))
  have hc2 := HC.out.cell
  clear hc
  go_enter Tryz.func50, Tryz.ntmps50
  go_wp2
  go_ret
  exact ⟨rfl, World.grownBy_alloc w _ _, HC.out⟩
set_option maxHeartbeats 1000000 in
theorem nth1_no (x y r : Int) (B : Nat) (_h0 : 0 ≤ x) (h1 : x ≤ y) (_h2 : y ≤ 65536) (hr : ¬ r < y - x) (hm : r ≤ 9223372036854775807) (w : World) (hc : Boxed w B 3 (.int .i64 r)) : Calls Tryz.prog 50 #[.agg #[.int .i64 x, .int .i64 y], .pointer (some ⟨B, 0, none⟩)] w (fun e w' => e = .returned (.bool false) ∧ w.grownBy w' (some B) ∧ Boxed w' B 3 (.int .i64 (r - (y - x)))) := by
  have HC := Lib.hid (hc.alloc (.cells #[.int .i64 x, .int .i64 y] 31))
  have hc2 := HC.out.cell
  have hc3 := HC.out.frozen
  clear hc
  go_enter Tryz.func50, Tryz.ntmps50
  go_wp2
  go_ret
  exact ⟨rfl, (World.grownBy_alloc w _ _).trans (grownBy_setCell' _ _ _), HC.out.set _⟩

/-- What find with the closure of Nth hands back. -/
def FoundN (o : Option Int) (B M : Nat) (w : World) (e : Ending) (w' : World) : Prop :=
  (match o with
   | some d => ∃ p q r : Int, e = .returned (.tuple #[.agg #[.int .i64 p, .int .i64 q], .bool true]) ∧ Boxed w' B 3 (.int .i64 r) ∧ p + r = d ∧ 0 ≤ p ∧ p ≤ 65536 ∧ 0 ≤ r ∧ r ≤ 65536
   | none => ∃ p q : Int, e = .returned (.tuple #[.agg #[.int .i64 p, .int .i64 q], .bool false])) ∧ Below M w w' ∧ w.heap.size ≤ w'.heap.size

set_option maxRecDepth 100000 in
set_option maxHeartbeats 4000000 in
theorem find_nth (v : Value) (l : L) (hl : IsSet l) (n : Int) (hn : 0 ≤ n) (hn2 : n ≤ 9223372036854775807) (B : Nat) (w0 w : World) (h : Spn w0 v l) (hw0 : Below w0.heap.size w0 w) (hB0 : w0.heap.size ≤ B) (hB : Boxed w B 3 (.int .i64 n)) :
    Calls Tryz.prog 49 #[v, .func (.func 50) #[] #[.pointer (some ⟨B, 0, none⟩)]] w (FoundN (nthO l n) B w0.heap.size w) := by
  have h' := h
  obtain ⟨a, cap, rfl, hlc, ⟨hcm, hcl, hcn⟩, hcs⟩ := h'
  clear hcn hcs
  have HS := Lib.hid h
  have HL := Lib.hid hl
  have HW0 := Lib.hid hw0
  have hBw := hB.lt
  have hz0 := hw0.size
  have HBX := Lib.hid (hB.alloc (.cells #[.int .i64 0, .int .i64 0] 31))
  have hr0 := Lib.hid (Bx.new 31 w (.int .i64 0) (.int .i64 0))
  clear h hB hl hw0
  go_enter Tryz.func49, Tryz.ntmps49
  go_wp2
  go_loopw [10] (fun i wr => ∃ k : Nat, k ≤ l.length ∧ i = .int .i64 k ∧ w.grownBy wr (some B) ∧ Hid (Bx 31 wr w.heap.size (.int .i64 0) (.int .i64 0)) ∧ w.heap.size < wr.heap.size ∧ ∃ r : Int, 0 ≤ r ∧ r ≤ n ∧ Hid (Boxed wr B 3 (.int .i64 r)) ∧ Hid (nthO l n = nthO (l.drop k) r)) (fun i _ => l.length - (intOf i).toNat)
  case atStart => exact ⟨0, Nat.zero_le _, rfl, World.grownBy_alloc w _ _, hr0, by simp, n, hn, Int.le_refl _, HBX, Lib.hid rfl⟩
  case round =>
    clear hr0 HBX
    obtain ⟨k, hk, rfl, hg, HR0, hsw, r, r0, rn, HBR, HM⟩ := hrel
    by_cases hlt : k < l.length
    · have hne : l ≠ [] := by intro e; rw [e] at hlt; simp at hlt
      obtain ⟨b, off, rfl, hbw, hc⟩ := HS.out.block hne
      have cc : ∀ o z, w0.cell? ⟨b, o, none⟩ = some z → wr.cell? ⟨b, o, none⟩ = some z := fun o z hz => hg.cell ((HW0.out.cell (p := ⟨b, o, none⟩) hbw).trans hz) (fun e => by have := Option.some.inj e; simp only at this; omega)
      have c1 := cc _ _ (hc k hlt).1
      have c2 := cc _ _ (hc k hlt).2
      have hx0 := HL.out.get hlt
      rw [← getD_eq hlt] at hx0
      have HN := Lib.hid (nthO_drop hlt r)
      obtain ⟨x, hx⟩ : ∃ x, x = (l[k]?.getD (0, 0)).1 := ⟨_, rfl⟩
      obtain ⟨y, hy⟩ : ∃ y, y = (l[k]?.getD (0, 0)).2 := ⟨_, rfl⟩
      rw [← hx] at c1 HN hx0
      rw [← hy] at c2 HN hx0
      obtain ⟨x0, x1, x2⟩ := hx0
      clear hx hy hc cc
      have hsz : wr.heap.size < (wr.alloc (.cells #[.int .i64 x, .int .i64 y] 31)).heap.size := by simp
      have HG := Lib.hid (hg.trans (World.grownBy_alloc wr (.cells #[.int .i64 x, .int .i64 y] 31) (some B)))
      have HR := Lib.hid (HR0.out.alloc (.cells #[.int .i64 x, .int .i64 y] 31))
      have HX := Lib.hid (Bx.new 31 wr (.int .i64 x) (.int .i64 y))
      have HC := Lib.hid (HBR.out.alloc (.cells #[.int .i64 x, .int .i64 y] 31))
      clear HBR HR0 hg
      have hBr : B < wr.heap.size := by omega
      by_cases hin : r < y - x
      · have HF : Hid (nthO l n = some (x + r)) := Lib.hid (by rw [HM.out, HN.out, if_pos hin])
        have HW := Lib.hid (fun W => nth1_yes x y r B (by omega) (by omega) x2 hin W)
        have r65 : r ≤ 65536 := by omega
        clear hin
        go_wp2_with fail
        obtain ⟨W, hW⟩ : ∃ W, wr.alloc (.cells #[.int .i64 x, .int .i64 y] 31) = W := ⟨_, rfl⟩
        rw [hW] at HG HR HX HC hsz ⊢
        clear hW
        refine (HW.out _ HC.out).mono ?_
        rintro e w1 ⟨rfl, hg2, hbx⟩
        have hx1 := (HX.out.grown hg2 (by omega)).cells
        have hr1 := HR.out.grown hg2 (by omega)
        have hG1 := HG.out.trans hg2
        have HB1 := Lib.hid hbx
        obtain ⟨x3, x4⟩ := hx1
        have hr2 := hr1.cells
        have hr3 := hr1.free
        obtain ⟨r1, r2⟩ := hr2
        obtain ⟨r3, r4⟩ := hr3
        have HP := Lib.hid (hr1.put (.int .i64 x) (.int .i64 y))
        have g1 := grownBy_setCell' w1 w.heap.size (.int .i64 x)
        have HB2 := Lib.hid ((boxed_other hbx (Nat.ne_of_lt hBw) (.int .i64 x)).kept (grownBy_put _ w.heap.size 1 (.int .i64 y)) (by intro e; cases e; omega))
        have hlow : Below w0.heap.size w w1 := below_of_grown hG1 hz0 (by intro k e; cases e; exact hB0)
        have HE := Lib.hid ((hlow.setCell (p := ⟨w.heap.size, 0, none⟩) hz0 (.int .i64 x)).setCell (p := ⟨w.heap.size, 1, none⟩) hz0 (.int .i64 y))
        clear hg2 hbx hr1 hG1 g1 hlow
        go_wp2
        obtain ⟨p1, p2⟩ := HP.out.cells
        refine bodyPost_ret (v := .tuple #[.agg #[.int .i64 x, .int .i64 y], .bool true]) (by simp [results, Tryz.results49, go_sem, p1, p2]) rfl ?_
        unfold FoundN
        rw [HF.out]
        exact ⟨⟨x, y, r, rfl, HB2.out, rfl, by omega, by omega, r0, r65⟩, HE.out, HE.out.size⟩
      · have HF : Hid (nthO l n = nthO (l.drop (k + 1)) (r - (y - x))) := Lib.hid (by rw [HM.out, HN.out, if_neg hin])
        have HW := Lib.hid (fun W => nth1_no x y r B (by omega) (by omega) x2 hin (by omega) W)
        have r5 : 0 ≤ r - (y - x) := by omega
        have r6 : r - (y - x) ≤ n := by omega
        clear hin
        go_wp2_with fail
        obtain ⟨W, hW⟩ : ∃ W, wr.alloc (.cells #[.int .i64 x, .int .i64 y] 31) = W := ⟨_, rfl⟩
        rw [hW] at HG HR HX HC hsz ⊢
        clear hW
        refine (HW.out _ HC.out).mono ?_
        rintro e w1 ⟨rfl, hg2, hbx⟩
        have HR1 := Lib.hid (HR.out.grown hg2 (by omega))
        have hG1 := HG.out.trans hg2
        have HB1 := Lib.hid hbx
        have hs1 : w.heap.size < w1.heap.size := by have := hg2.size; omega
        clear hbx hg2
        go_wp2
        go_roundw
        case rel => exact ⟨k + 1, by omega, by go_num, hG1, HR1, hs1, _, r5, r6, HB1, HF⟩
        case measure => simp [intOf]; omega
    · have e : l.drop k = [] := List.drop_eq_nil_of_le (by omega)
      rw [e] at HM
      clear e
      have hr2 := HR0.out.cells
      have hr3 := HR0.out.free
      obtain ⟨r1, r2⟩ := hr2
      obtain ⟨r3, r4⟩ := hr3
      have HP := Lib.hid (HR0.out.put (.int .i64 0) (.int .i64 0))
      have hlow : Below w0.heap.size w wr := below_of_grown hg hz0 (by intro k e; cases e; exact hB0)
      have HE := Lib.hid ((hlow.setCell (p := ⟨w.heap.size, 0, none⟩) hz0 (.int .i64 0)).setCell (p := ⟨w.heap.size, 1, none⟩) hz0 (.int .i64 0))
      clear hlow hg
      go_wp2
      obtain ⟨p1, p2⟩ := HP.out.cells
      refine bodyPost_ret (v := .tuple #[.agg #[.int .i64 0, .int .i64 0], .bool false]) (by simp [results, Tryz.results49, go_sem, p1, p2]) rfl ?_
      unfold FoundN
      rw [HM.out]
      exact ⟨⟨0, 0, rfl⟩, HE.out, HE.out.size⟩
end Go.Proofs.YtanlaejdibikiaaGreat
