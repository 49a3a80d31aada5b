/-
Numbers with a sign; 'sum'.
-/
import Derived.Test.YtodmbklednehbaaValid
import Derived.Test.YtodmbklednehbaaMultiply
import Derived.Deep.RegionWith
import Derived.Deep.RegionHeld3
import Derived.Outline
namespace Go.Proofs.Ytodmbklednehbaa
open Go.RowKit Wh

/-- The value v is the number z. -/
def Num (W : World) (v : Value) (z : Int) : Prop := ∃ s, v = .agg #[.bool (decide (z < 0)), s] ∧ Lim W s (dig z.natAbs)
/-- .. in memory made from block B on. -/
def NumF (B : Nat) (W : World) (v : Value) (z : Int) : Prop := ∃ s, v = .agg #[.bool (decide (z < 0)), s] ∧ LimF B W s (dig z.natAbs)

theorem NumF.num {B W v z} (h : NumF B W v z) : Num W v z := by obtain ⟨s, e, h⟩ := h; exact ⟨s, e, h.1⟩
theorem Num.below {W W' : World} {B : Nat} {v : Value} {z : Int} (h : Num W v z) (hB : Below B W W') (hs : W.heap.size ≤ B) : Num W' v z := by obtain ⟨s, e, h⟩ := h; exact ⟨s, e, h.below hB hs⟩
theorem NumF.below {B : Nat} {W W' : World} {v : Value} {z : Int} (h : NumF B W v z) (hb : Below W.heap.size W W') : NumF B W' v z := by obtain ⟨s, e, h⟩ := h; exact ⟨s, e, h.below hb⟩
theorem NumF.mono {B B' : Nat} {W : World} {v : Value} {z : Int} (h : NumF B W v z) (hB : B' ≤ B) : NumF B' W v z := by obtain ⟨s, e, h⟩ := h; exact ⟨s, e, h.mono hB⟩

theorem sum_size_same (a b : Int) (h : decide (a < 0) = decide (b < 0)) : (a.natAbs : Int) * 1 + (b.natAbs : Int) * 1 = ((a + b).natAbs : Int) := by
  have := decide_eq_decide.1 h; omega
theorem sum_size_diff (a b : Int) (h : decide (a < 0) ≠ decide (b < 0)) (hab : b.natAbs ≤ a.natAbs) : (a.natAbs : Int) * 1 + (b.natAbs : Int) * (-1) = ((a + b).natAbs : Int) := by
  have : ¬ (a < 0 ↔ b < 0) := fun e => h (decide_eq_decide.2 e); omega
theorem sum_sign (a b : Int) (hab : b.natAbs ≤ a.natAbs) : (decide (a < 0) && decide (dig (a + b).natAbs ≠ [])) = decide (a + b < 0) := by
  rw [Bool.eq_iff_iff]
  simp [dig_nil_iff]
  omega

/-- Block B is the box of a number. -/
def Bx (W : World) (B : Nat) (x y : Value) : Prop := W.heap[B]? = some (.cells #[x, y] 26 (0, 0))
theorem Bx.lt {W B x y} (h : Bx W B x y) : B < W.heap.size := (Array.getElem?_eq_some_iff.1 h).1
theorem Bx.cells {W B x y} (h : Bx W B x y) : W.cell? ⟨B, 0, none⟩ = some x ∧ W.cell? ⟨B, 1, none⟩ = some y := by
  unfold Bx at h
  constructor <;> simp [World.cell?, h]
theorem Bx.free {W B x y} (h : Bx W B x y) : W.frozen? ⟨B, 0, none⟩ = false ∧ W.frozen? ⟨B, 1, none⟩ = false := by
  unfold Bx at h
  constructor <;> simp [World.frozen?, h]
theorem Bx.below {W W' : World} {M B : Nat} {x y : Value} (h : Bx W B x y) (hb : Below M W W') (hM : B < M) : Bx W' B x y := (hb.block B hM).trans h
theorem Bx.on {W W' : World} {B : Nat} {x y : Value} (h : Bx W B x y) (hb : Below W.heap.size W W') : Bx W' B x y := h.below hb h.lt
theorem Bx.ond {W W' : World} {B : Nat} {x y : Value} (h : Bx W B x y) (hb : Below W.drew.heap.size W.drew W') : Bx W' B x y := h.below (((Below.refl W.heap.size W).drew).trans hb) h.lt
theorem Bx.new (W : World) (x y : Value) : Bx (W.alloc (.cells #[x, y] 26)) W.heap.size x y := World.alloc_heap_new W _
theorem Bx.alloc {W : World} {B x y} (h : Bx W B x y) (o : Obj) : Bx (W.alloc o) B x y := h.below ((Below.refl W.heap.size W).alloc (Nat.le_refl _) o) h.lt

theorem cell_store {W : World} {B B' : Nat} {o : Nat} {x v v' : Value} (h : W.cell? ⟨B, o, none⟩ = some x) (hne : B' ≠ B) : ((W.setCell ⟨B', 0, none⟩ v).setCell ⟨B', 1, none⟩ v').cell? ⟨B, o, none⟩ = some x := by
  rw [World.cell?_setCell_far _ _ _ _ (by exact hne), World.cell?_setCell_far _ _ _ _ (by exact hne), h]

theorem Bx.put {W : World} {B : Nat} {x y : Value} (h : Bx W B x y) (v v' : Value) : Bx ((W.setCell ⟨B, 0, none⟩ v).setCell ⟨B, 1, none⟩ v') B v v' := by
  have h1 : Bx (W.setCell ⟨B, 0, none⟩ v) B v y := by
    obtain ⟨hlt, hk⟩ := Array.getElem?_eq_some_iff.1 h
    show (W.heap.modify B _)[B]? = _
    rw [Array.getElem?_eq_getElem (by rw [Array.size_modify]; exact hlt), Array.getElem_modify_self, hk]
    rfl
  obtain ⟨hlt, hk⟩ := Array.getElem?_eq_some_iff.1 h1
  show ((W.setCell ⟨B, 0, none⟩ v).heap.modify B _)[B]? = _
  rw [Array.getElem?_eq_getElem (by rw [Array.size_modify]; exact hlt), Array.getElem_modify_self, hk]
  rfl
theorem Bx.put_other {W : World} {B B' : Nat} {x y : Value} (h : Bx W B x y) (v v' : Value) (hne : B' ≠ B) : Bx ((W.setCell ⟨B', 0, none⟩ v).setCell ⟨B', 1, none⟩ v') B x y := by
  unfold Bx
  rw [Below.heap_setCell _ _ _ _ (by exact fun e => hne e.symm), Below.heap_setCell _ _ _ _ (by exact fun e => hne e.symm)]
  exact h
theorem Fr.setCell {B : Nat} {W : World} {v : Value} (h : Fr B W v) {p : Addr} (hp : p.block < B) (x : Value) : Fr B (W.setCell p x) v := by
  rcases h with h | ⟨g, n, cap, cur, T, h1, h2, h3, h4⟩
  · exact .inl h
  · exact .inr ⟨g, n, cap, cur, T, h1, h2, by rw [Below.heap_setCell _ _ _ _ (by omega)]; exact h3, h4⟩
theorem LimF.setCell {B : Nat} {W : World} {v : Value} {l : List Nat} (h : LimF B W v l) {p : Addr} (hp : p.block < B) (x : Value) : LimF B (W.setCell p x) v l := by
  refine ⟨?_, h.2.setCell hp x⟩
  obtain ⟨⟨a, cap, rfl, h1, h2, h3⟩, hf⟩ := h
  refine ⟨a, cap, rfl, h1, h2, ?_⟩
  rcases h3 with h3 | ⟨b, off, rfl, hc⟩
  · exact .inl h3
  · rcases hf with hf | ⟨g, n, cap', cur, T, e1, hg, -⟩
    · cases hf
    · cases e1
      exact .inr ⟨b, 0, rfl, fun j hj => by rw [World.cell?_setCell_far _ _ _ _ (by show p.block ≠ b; omega)]; exact hc j hj⟩
theorem LimF.put {B B' : Nat} {W : World} {s : Value} {l : List Nat} (h : LimF B W s l) (hp : B' < B) (v v' : Value) : LimF B ((W.setCell ⟨B', 0, none⟩ v).setCell ⟨B', 1, none⟩ v') s l :=
  (h.setCell (p := ⟨B', 0, none⟩) hp v).setCell (p := ⟨B', 1, none⟩) hp v'
theorem Below.put {n B : Nat} {W W' : World} (h : Below n W W') (hB : n ≤ B) (v v' : Value) : Below n W ((W'.setCell ⟨B, 0, none⟩ v).setCell ⟨B, 1, none⟩ v') :=
  (h.setCell (p := ⟨B, 0, none⟩) hB v).setCell (p := ⟨B, 1, none⟩) hB v'

theorem lf_slice {B : Nat} {W : World} {v : Value} {l : List Nat} (h : LimF B W v l) : ∃ a cap, v = .slice a l.length cap := by
  obtain ⟨a, cap, e, -⟩ := h.1; exact ⟨a, cap, e⟩

set_option maxRecDepth 100000 in
set_option maxHeartbeats 2000000 in
theorem sum_keep (na nb nz : Bool) (aa ab : Option Addr) (la ca lb cb T : Nat) (cm f : Int) (hcm : ¬ cm < 0) (hf : na = nb ∧ f = 1 ∨ nb = !na ∧ f = -1) (w : World)
    (HW1 : Hid (∀ W, Below w.heap.size w W → Calls Try.prog 59 #[.slice aa la ca, .slice ab lb cb] W fun e w' => e = .returned (.int .i64 cm) ∧ Below W.heap.size W w'))
    (HW2 : Hid (∀ W, Below w.heap.size w W → Calls Try.prog 57 #[.slice aa la ca, .slice ab lb cb, .int .i64 1, .int .i64 f] W fun e w' => (∃ s, e = .returned s ∧ LimF W.heap.size w' s (dig T)) ∧ Below W.heap.size W w'))
    (HW3 : Hid (∀ W s, Lim W s (dig T) → Calls Try.prog 52 #[.bool na, s] W fun e w' => e = .returned (.agg #[.bool nz, s]) ∧ Below W.heap.size W w')) :
    Calls Try.prog 39 #[.agg #[.bool na, .slice aa la ca], .agg #[.bool nb, .slice ab lb cb]] w fun e w' => (∃ s, e = .returned (.agg #[.bool nz, s]) ∧ LimF w.heap.size w' s (dig T)) ∧ Below w.heap.size w w' := by
  have hz := (((Below.refl w.heap.size w).alloc (Nat.le_refl _) (.cells #[.bool na, .slice aa la ca] 26)).alloc (by simp) (.cells #[.bool nb, .slice ab lb cb] 26)).alloc (by simp <;> omega) (.cells #[.bool false, .slice none 0 0] 26)
  have x2 := ((Bx.new w (.bool na) (.slice aa la ca)).alloc (.cells #[.bool nb, .slice ab lb cb] 26)).alloc (.cells #[.bool false, .slice none 0 0] 26)
  have x3 := (Bx.new (w.alloc (.cells #[.bool na, .slice aa la ca] 26)) (.bool nb) (.slice ab lb cb)).alloc (.cells #[.bool false, .slice none 0 0] 26)
  have x4 := Bx.new ((w.alloc (.cells #[.bool na, .slice aa la ca] 26)).alloc (.cells #[.bool nb, .slice ab lb cb] 26)) (.bool false) (.slice none 0 0)
  simp only [World.size_alloc] at x3 x4
  rcases hf with ⟨e0, rfl⟩ | ⟨e0, rfl⟩ <;> subst e0
  all_goals
    go_enter Try.func39, Try.ntmps39
    go_wp2_with (go_at_call 59; refine (HW1.out _ hz).mono ?_; rintro e w1 ⟨rfl, hb1⟩; have hB1 := hz.trans (hb1.mono (by simp <;> omega)); have y2 := x2.on hb1; have y3 := x3.on hb1; have y4 := x4.on hb1; have hs1 := hb1.size; simp only [World.size_alloc] at hs1; obtain ⟨p2, p2'⟩ := y2.cells; obtain ⟨p3, p3'⟩ := y3.cells)
    go_region_held3 (fun w' => w'.cell? ⟨w.heap.size, 0, none⟩ = some (.bool na) ∧ w'.cell? ⟨w.heap.size, 1, none⟩ = some (.slice aa la ca) ∧ w'.cell? ⟨w.heap.size + 1, 1, none⟩ = some (.slice ab lb cb))
      (first | go_keep | exact ⟨cell_store r2 n2, cell_store r2' n2, cell_store r3' n3⟩)
      (first
      | (go_at_call 57; refine (HW2.out _ hB1.drew).mono ?_; rintro e w2 ⟨⟨s, rfl, hl⟩, hb2⟩; obtain ⟨a2, c2, rfl⟩ := lf_slice hl; have hs2 : w1.heap.size ≤ w2.heap.size := hb2.size; have hB2 := hB1.drew.trans (hb2.mono (show w.heap.size ≤ w1.heap.size by omega)); have z2 := y2.ond hb2; obtain ⟨q2, q2'⟩ := z2.cells; have z3 := y3.ond hb2; obtain ⟨q3, q3'⟩ := z3.cells; have z4 := y4.ond hb2)
      | (go_at_call 52; refine (HW3.out _ _ hl.1).mono ?_; rintro e w3 ⟨rfl, hb3⟩; have hs3 := hb3.size; have hB3 := hB2.trans (hb3.mono (by omega)); have u2 := z2.on hb3; obtain ⟨r2, r2'⟩ := u2.cells; have u3 := z3.on hb3; obtain ⟨r3, r3'⟩ := u3.cells; have n2 : w.heap.size + 1 + 1 ≠ w.heap.size := (by omega); have n3 : w.heap.size + 1 + 1 ≠ w.heap.size + 1 := (by omega); have v4 := z4.on hb3; obtain ⟨p4, p4'⟩ := v4.cells; obtain ⟨f4, f4'⟩ := v4.free))
    go_wp2
    have hl3 := ((hl.below hb3).put (B' := w.heap.size + 1 + 1) (show w.heap.size + 1 + 1 < w1.heap.size by omega) (.bool nz) (.slice a2 (dig T).length c2)).mono (show w.heap.size ≤ w1.heap.size by omega)
    obtain ⟨k4, k4'⟩ := (v4.put (.bool nz) (.slice a2 (dig T).length c2)).cells
    exact bodyPost_ret (v := .agg #[.bool nz, .slice a2 (dig T).length c2]) (by simp [results, Try.results39, go_sem, k4, k4']) rfl ⟨⟨_, rfl, hl3⟩, Below.put hB3 (by omega) _ _⟩

set_option maxRecDepth 100000 in
set_option maxHeartbeats 2000000 in
theorem sum_swap (na nb nz : Bool) (aa ab : Option Addr) (la ca lb cb T : Nat) (cm f : Int) (hcm : cm < 0) (hf : (!nb == na) = false ∧ f = 1 ∨ (!nb == na) = true ∧ f = -1) (w : World)
    (HW1 : Hid (∀ W, Below w.heap.size w W → Calls Try.prog 59 #[.slice aa la ca, .slice ab lb cb] W fun e w' => e = .returned (.int .i64 cm) ∧ Below W.heap.size W w'))
    (HW2 : Hid (∀ W, Below w.heap.size w W → Calls Try.prog 57 #[.slice ab lb cb, .slice aa la ca, .int .i64 1, .int .i64 f] W fun e w' => (∃ s, e = .returned s ∧ LimF W.heap.size w' s (dig T)) ∧ Below W.heap.size W w'))
    (HW3 : Hid (∀ W s, Lim W s (dig T) → Calls Try.prog 52 #[.bool nb, s] W fun e w' => e = .returned (.agg #[.bool nz, s]) ∧ Below W.heap.size W w')) :
    Calls Try.prog 39 #[.agg #[.bool na, .slice aa la ca], .agg #[.bool nb, .slice ab lb cb]] w fun e w' => (∃ s, e = .returned (.agg #[.bool nz, s]) ∧ LimF w.heap.size w' s (dig T)) ∧ Below w.heap.size w w' := by
  have hz := (((Below.refl w.heap.size w).alloc (Nat.le_refl _) (.cells #[.bool na, .slice aa la ca] 26)).alloc (by simp) (.cells #[.bool nb, .slice ab lb cb] 26)).alloc (by simp <;> omega) (.cells #[.bool false, .slice none 0 0] 26)
  have x2 := ((Bx.new w (.bool na) (.slice aa la ca)).alloc (.cells #[.bool nb, .slice ab lb cb] 26)).alloc (.cells #[.bool false, .slice none 0 0] 26)
  have x3 := (Bx.new (w.alloc (.cells #[.bool na, .slice aa la ca] 26)) (.bool nb) (.slice ab lb cb)).alloc (.cells #[.bool false, .slice none 0 0] 26)
  have x4 := Bx.new ((w.alloc (.cells #[.bool na, .slice aa la ca] 26)).alloc (.cells #[.bool nb, .slice ab lb cb] 26)) (.bool false) (.slice none 0 0)
  simp only [World.size_alloc] at x3 x4
  rcases hf with ⟨e0, rfl⟩ | ⟨e0, rfl⟩
  all_goals
    go_enter Try.func39, Try.ntmps39
    go_wp2_with (go_at_call 59; refine (HW1.out _ hz).mono ?_; rintro e w1 ⟨rfl, hb1⟩; have hB1 := hz.trans (hb1.mono (by simp <;> omega)); have y2 := x2.on hb1; have y3 := x3.on hb1; have y4 := x4.on hb1; have hs1 := hb1.size; simp only [World.size_alloc] at hs1; obtain ⟨p2, p2'⟩ := y2.cells; obtain ⟨p3, p3'⟩ := y3.cells; obtain ⟨f2, f2'⟩ := y2.free; obtain ⟨f3, f3'⟩ := y3.free)
    have m2 : w.heap.size + 1 ≠ w.heap.size := by omega
    have m4 : w.heap.size ≠ w.heap.size + 1 + 1 := by omega
    have m5 : w.heap.size + 1 ≠ w.heap.size + 1 + 1 := by omega
    have Y2 := (y2.put (.bool nb) (.slice ab lb cb)).put_other (.bool na) (.slice aa la ca) m2
    have Y3 := (y3.put_other (.bool nb) (.slice ab lb cb) (Ne.symm m2)).put (.bool na) (.slice aa la ca)
    have Y4 := (y4.put_other (.bool nb) (.slice ab lb cb) m4).put_other (.bool na) (.slice aa la ca) m5
    have HB1 := Below.put (B := w.heap.size + 1) (Below.put (B := w.heap.size) hB1 (Nat.le_refl _) (.bool nb) (.slice ab lb cb)) (by omega) (.bool na) (.slice aa la ca)
    have hs1' : w.heap.size + 1 + 1 + 1 ≤ ((((w1.setCell ⟨w.heap.size, 0, none⟩ (.bool nb)).setCell ⟨w.heap.size, 1, none⟩ (.slice ab lb cb)).setCell ⟨w.heap.size + 1, 0, none⟩ (.bool na)).setCell ⟨w.heap.size + 1, 1, none⟩ (.slice aa la ca)).heap.size := by simp; omega
    obtain ⟨P2, P2'⟩ := Y2.cells
    obtain ⟨P3, P3'⟩ := Y3.cells
    go_region_held3 (fun w' => w'.cell? ⟨w.heap.size, 0, none⟩ = some (.bool nb) ∧ w'.cell? ⟨w.heap.size, 1, none⟩ = some (.slice ab lb cb) ∧ w'.cell? ⟨w.heap.size + 1, 1, none⟩ = some (.slice aa la ca))
      (first | go_keep | exact ⟨cell_store r2 n2, cell_store r2' n2, cell_store r3' n3⟩)
      (first
      | (go_at_call 57; refine (HW2.out _ HB1.drew).mono ?_; rintro e w2 ⟨⟨s, rfl, hl⟩, hb2⟩; obtain ⟨a2, c2, rfl⟩ := lf_slice hl; have hs2 := Nat.le_trans hs1' hb2.size; have hB2 := HB1.drew.trans (hb2.mono HB1.size); have z2 := Y2.ond hb2; obtain ⟨q2, q2'⟩ := z2.cells; have z3 := Y3.ond hb2; obtain ⟨q3, q3'⟩ := z3.cells; have z4 := Y4.ond hb2)
      | (go_at_call 52; refine (HW3.out _ _ hl.1).mono ?_; rintro e w3 ⟨rfl, hb3⟩; have hs3 := hb3.size; have hB3 := hB2.trans (hb3.mono (by omega)); have u2 := z2.on hb3; obtain ⟨r2, r2'⟩ := u2.cells; have u3 := z3.on hb3; obtain ⟨r3, r3'⟩ := u3.cells; have n2 : w.heap.size + 1 + 1 ≠ w.heap.size := (by omega); have n3 : w.heap.size + 1 + 1 ≠ w.heap.size + 1 := (by omega); have v4 := z4.on hb3; obtain ⟨p4, p4'⟩ := v4.cells; obtain ⟨f4, f4'⟩ := v4.free))
    go_wp2
    have hl3 := ((hl.below hb3).put (B' := w.heap.size + 1 + 1) (Nat.lt_of_lt_of_le (by omega) hs1') (.bool nz) (.slice a2 (dig T).length c2)).mono HB1.size
    obtain ⟨k4, k4'⟩ := (v4.put (.bool nz) (.slice a2 (dig T).length c2)).cells
    exact bodyPost_ret (v := .agg #[.bool nz, .slice a2 (dig T).length c2]) (by simp [results, Try.results39, go_sem, k4, k4']) rfl ⟨⟨_, rfl, hl3⟩, Below.put hB3 (by omega) _ _⟩

theorem bne_cases (x y : Bool) : (!x == y) = false ∧ y = x ∨ (!x == y) = true ∧ y = !x := by cases x <;> cases y <;> simp

theorem sum_any (va vb : Value) (a b : Int) (ha : (dig a.natAbs).length ≤ 16384) (hb : (dig b.natAbs).length ≤ 16384) (w : World) (h : Num w va a) (g : Num w vb b) :
    Calls Try.prog 39 #[va, vb] w fun e w' => (∃ v, e = .returned v ∧ NumF w.heap.size w' v (a + b)) ∧ Below w.heap.size w w' := by
  obtain ⟨sa, rfl, la⟩ := h
  obtain ⟨sb, rfl, lb⟩ := g
  have hw1 := fun W (hW : Below w.heap.size w W) => compare_any sa sb (dig a.natAbs) (dig b.natAbs) (dig_Lm _) (dig_Lm _) W (la.below hW (Nat.le_refl _)) (lb.below hW (Nat.le_refl _))
  rw [cmp_dig] at hw1
  have out : ∀ {e : Ending} {w' : World}, (∃ s, e = .returned (.agg #[.bool (decide (a + b < 0)), s]) ∧ LimF w.heap.size w' s (dig (a + b).natAbs)) ∧ Below w.heap.size w w' →
      (∃ v, e = .returned v ∧ NumF w.heap.size w' v (a + b)) ∧ Below w.heap.size w w' := fun ⟨⟨s, e1, e2⟩, e3⟩ => ⟨⟨_, e1, s, rfl, e2⟩, e3⟩
  by_cases hab : b.natAbs ≤ a.natAbs
  · have hc : ¬ (cmpN a.natAbs b.natAbs < 0) := by unfold cmpN; split <;> (try split) <;> omega
    have hnum : ∀ W s, Lim W s (dig (a + b).natAbs) → Calls Try.prog 52 #[.bool (decide (a < 0)), s] W fun e w' => e = .returned (.agg #[.bool (decide (a + b < 0)), s]) ∧ Below W.heap.size W w' := fun W s hl => by
      have := number_any (decide (a < 0)) s _ W hl
      rwa [sum_sign a b hab] at this
    rcases bne_cases (decide (a < 0)) (decide (b < 0)) with ⟨-, h2⟩ | ⟨-, h2⟩
    · have hw2 := fun W (hW : Below w.heap.size w W) => combine_any sa sb (dig a.natAbs) (dig b.natAbs) 1 1 (dig_Lm _) (dig_Lm _) (by omega) (by omega) (by omega) (by omega) (by omega) (by omega) (by omega) W (la.below hW (Nat.le_refl _)) (lb.below hW (Nat.le_refl _))
      rw [val_dig, val_dig, sum_size_same a b h2.symm] at hw2
      simp only [Int.toNat_natCast] at hw2
      obtain ⟨aa, capa, rfl, -⟩ := id la
      obtain ⟨ab, capb, rfl, -⟩ := id lb
      exact (sum_keep _ _ _ aa ab _ capa _ capb _ _ 1 hc (.inl ⟨h2.symm, rfl⟩) w (Lib.hid hw1) (Lib.hid hw2) (Lib.hid hnum)).mono fun _ _ => out
    · have hne : decide (a < 0) ≠ decide (b < 0) := by rw [h2]; cases decide (a < 0) <;> simp
      have hw2 := fun W (hW : Below w.heap.size w W) => combine_any sa sb (dig a.natAbs) (dig b.natAbs) 1 (-1) (dig_Lm _) (dig_Lm _) (by omega) (by omega) (by omega) (by omega) (by omega) (by omega) (by rw [val_dig, val_dig, sum_size_diff a b hne hab]; omega) W (la.below hW (Nat.le_refl _)) (lb.below hW (Nat.le_refl _))
      rw [val_dig, val_dig, sum_size_diff a b hne hab] at hw2
      simp only [Int.toNat_natCast] at hw2
      obtain ⟨aa, capa, rfl, -⟩ := id la
      obtain ⟨ab, capb, rfl, -⟩ := id lb
      exact (sum_keep _ _ _ aa ab _ capa _ capb _ _ (-1) hc (.inr ⟨h2, rfl⟩) w (Lib.hid hw1) (Lib.hid hw2) (Lib.hid hnum)).mono fun _ _ => out
  · have hba : a.natAbs ≤ b.natAbs := by omega
    have hc : cmpN a.natAbs b.natAbs < 0 := by unfold cmpN; split <;> (try split) <;> omega
    have hnum : ∀ W s, Lim W s (dig (a + b).natAbs) → Calls Try.prog 52 #[.bool (decide (b < 0)), s] W fun e w' => e = .returned (.agg #[.bool (decide (a + b < 0)), s]) ∧ Below W.heap.size W w' := fun W s hl => by
      rw [Int.add_comm] at hl ⊢
      have := number_any (decide (b < 0)) s _ W hl
      rwa [sum_sign b a hba] at this
    rcases bne_cases (decide (b < 0)) (decide (a < 0)) with ⟨h1, h2⟩ | ⟨h1, h2⟩
    · have hw2 := fun W (hW : Below w.heap.size w W) => combine_any sb sa (dig b.natAbs) (dig a.natAbs) 1 1 (dig_Lm _) (dig_Lm _) (by omega) (by omega) (by omega) (by omega) (by omega) (by omega) (by omega) W (lb.below hW (Nat.le_refl _)) (la.below hW (Nat.le_refl _))
      rw [val_dig, val_dig, sum_size_same b a h2.symm, Int.add_comm b a] at hw2
      simp only [Int.toNat_natCast] at hw2
      obtain ⟨aa, capa, rfl, -⟩ := id la
      obtain ⟨ab, capb, rfl, -⟩ := id lb
      exact (sum_swap _ _ _ aa ab _ capa _ capb _ _ 1 hc (.inl ⟨h1, rfl⟩) w (Lib.hid hw1) (Lib.hid hw2) (Lib.hid hnum)).mono fun _ _ => out
    · have hne : decide (b < 0) ≠ decide (a < 0) := by rw [h2]; cases decide (b < 0) <;> simp
      have hw2 := fun W (hW : Below w.heap.size w W) => combine_any sb sa (dig b.natAbs) (dig a.natAbs) 1 (-1) (dig_Lm _) (dig_Lm _) (by omega) (by omega) (by omega) (by omega) (by omega) (by omega) (by rw [val_dig, val_dig, sum_size_diff b a hne hba]; omega) W (lb.below hW (Nat.le_refl _)) (la.below hW (Nat.le_refl _))
      rw [val_dig, val_dig, sum_size_diff b a hne hba, Int.add_comm b a] at hw2
      simp only [Int.toNat_natCast] at hw2
      obtain ⟨aa, capa, rfl, -⟩ := id la
      obtain ⟨ab, capb, rfl, -⟩ := id lb
      exact (sum_swap _ _ _ aa ab _ capa _ capb _ _ (-1) hc (.inr ⟨h1, rfl⟩) w (Lib.hid hw1) (Lib.hid hw2) (Lib.hid hnum)).mono fun _ _ => out

end Go.Proofs.Ytodmbklednehbaa
