/-
Slices of spans in memory; a span's own tests.
-/
import Derived.RangeFuncBox
import Derived.RangeFuncLeaves
import Derived.Shelf.Abstract
import Derived.WalkKit
import Derived.OwnWalkIn
import Derived.TacticsInMore
import Derived.LoopNIn
import Derived.LoopIn
import Derived.WalkSpells
import Derived.Lib.Hide
import Derived.BigQuiet
import Derived.Deep.QuietTactic
import Derived.Deep.RegionHeld3
import Derived.Deep.RegionWith
import Derived.IntWalk
import Derived.Test.YtanlaejdibikiaaGreatProg
import Derived.Test.YtanlaejdibikiaaGreatCount
namespace Go.Proofs.YtanlaejdibikiaaGreat
open Go.RowKit Go.Shelf Sp

theorem add_eq (b off j : Nat) : (⟨b, off, none⟩ : Addr).add j = ⟨b, off + j, none⟩ := by
  unfold Addr.add
  by_cases h : j = 0
  · subst h; simp
  · simp [h]

def okB (x y : Int) : Bool := decide (0 ≤ x ∧ x ≤ y ∧ y ≤ 65536)

theorem okB_iff (x y : Int) : okB x y = true ↔ 0 ≤ x ∧ x ≤ y ∧ y ≤ 65536 := by simp [okB]
theorem okB_not (x y : Int) : okB x y = false ↔ ¬ (0 ≤ x ∧ x ≤ y ∧ y ≤ 65536) := by simp [okB]

set_option maxHeartbeats 1000000 in
theorem isValid_yes (x y : Int) (w : World) (h : okB x y = true) :
    Calls Tryz.prog 47 #[.agg #[.int .i64 x, .int .i64 y]] w fun e w' => e = .returned (.bool true) ∧ Below w.heap.size w w' := by
  rw [okB_iff] at h
  obtain ⟨h1, h2, h3⟩ := h
  go_enter Tryz.func47, Tryz.ntmps47
  go_wp2
  go_ret
  exact ⟨rfl, (Below.refl _ _).alloc (Nat.le_refl _) _⟩

set_option maxHeartbeats 1000000 in
theorem isValid_no (x y : Int) (w : World) (h : okB x y = false) :
    Calls Tryz.prog 47 #[.agg #[.int .i64 x, .int .i64 y]] w fun e w' => e = .returned (.bool false) ∧ Below w.heap.size w w' := by
  rw [okB_not] at h
  by_cases h1 : 0 ≤ x
  · by_cases h2 : x ≤ y
    · have h3 : ¬ y ≤ 65536 := by omega
      clear h
      go_enter Tryz.func47, Tryz.ntmps47
      go_wp2
      go_ret
      exact ⟨rfl, (Below.refl _ _).alloc (Nat.le_refl _) _⟩
    · clear h
      go_enter Tryz.func47, Tryz.ntmps47
      go_wp2
      go_ret
      exact ⟨rfl, (Below.refl _ _).alloc (Nat.le_refl _) _⟩
  · clear h
    go_enter Tryz.func47, Tryz.ntmps47
    go_wp2
    go_ret
    exact ⟨rfl, (Below.refl _ _).alloc (Nat.le_refl _) _⟩

set_option maxHeartbeats 1000000 in
theorem isEmpty_any (x y : Int) (w : World) :
    Calls Tryz.prog 51 #[.agg #[.int .i64 x, .int .i64 y]] w fun e w' => e = .returned (.bool (x == y)) ∧ Below w.heap.size w w' := by
  go_enter Tryz.func51, Tryz.ntmps51
  go_wp2
  go_ret
  exact ⟨rfl, (Below.refl _ _).alloc (Nat.le_refl _) _⟩

/-- The slice value v holds the spans l. -/
def Spn (W : World) (v : Value) (l : L) : Prop :=
  ∃ a cap, v = .slice a l.length cap ∧ l.length ≤ cap ∧ (cap ≤ 9223372036854775807 ∧ l.length ≤ 8796093022208 ∧ (a = none → cap = 0)) ∧
    (l = [] ∨ ∃ b off, a = some ⟨b, off, none⟩ ∧ ∀ j, j < l.length → W.cell? ⟨b, off + j * 2, none⟩ = some (.int .i64 (l[j]?.getD (0, 0)).1) ∧ W.cell? ⟨b, off + j * 2 + 1, none⟩ = some (.int .i64 (l[j]?.getD (0, 0)).2))

theorem lt_of_cell {W : World} {a : Addr} {v : Value} (h : W.cell? a = some v) : a.block < W.heap.size := by
  unfold World.cell? at h
  cases hb : W.heap[a.block]? with
  | none => simp [hb] at h
  | some o => exact (Array.getElem?_eq_some_iff.1 hb).1

theorem Spn.block {W : World} {a : Option Addr} {n cap : Nat} {l : L} (h : Spn W (.slice a n cap) l) (hl : l ≠ []) :
    ∃ b off, a = some ⟨b, off, none⟩ ∧ b < W.heap.size ∧ ∀ j, j < l.length → W.cell? ⟨b, off + j * 2, none⟩ = some (.int .i64 (l[j]?.getD (0, 0)).1) ∧ W.cell? ⟨b, off + j * 2 + 1, none⟩ = some (.int .i64 (l[j]?.getD (0, 0)).2) := by
  obtain ⟨a', cap', e, _, _, h⟩ := h
  cases e
  rcases h with h | ⟨b, off, rfl, hc⟩
  · exact absurd h hl
  · exact ⟨b, off, rfl, lt_of_cell (hc 0 (by cases l with | nil => exact absurd rfl hl | cons => simp)).1, hc⟩

theorem Spn.nil (W : World) : Spn W (.slice none 0 0) [] := ⟨none, 0, rfl, by simp, ⟨by omega, by simp, fun _ => rfl⟩, .inl rfl⟩

/-- What is there stays, whatever happens to new blocks. -/
theorem Spn.below {W W' : World} {B : Nat} {v : Value} {l : L} (h : Spn W v l) (hB : Below B W W') (hs : W.heap.size ≤ B) : Spn W' v l := by
  obtain ⟨a, cap, rfl, h1, h2, h⟩ := h
  refine ⟨a, cap, rfl, h1, h2, ?_⟩
  rcases h with h | ⟨b, off, rfl, hc⟩
  · exact .inl h
  · refine .inr ⟨b, off, rfl, fun j hj => ?_⟩
    have hb : b < B := Nat.lt_of_lt_of_le (lt_of_cell (hc j hj).1) hs
    exact ⟨(hB.cell (p := ⟨b, off + j * 2, none⟩) hb).trans (hc j hj).1, (hB.cell (p := ⟨b, off + j * 2 + 1, none⟩) hb).trans (hc j hj).2⟩

/-- Block B is the box of two values of type T. -/
def Bx (T : TypeId) (W : World) (B : Nat) (x y : Value) : Prop := W.heap[B]? = some (.cells #[x, y] T (0, 0))
theorem Bx.lt {T : TypeId} {W B x y} (h : Bx T W B x y) : B < W.heap.size := (Array.getElem?_eq_some_iff.1 h).1
theorem Bx.cells {T : TypeId} {W B x y} (h : Bx T W B x y) : W.cell? ⟨B, 0, none⟩ = some x ∧ W.cell? ⟨B, 1, none⟩ = some y := by
  unfold Bx at h
  constructor <;> simp [World.cell?, h]
theorem Bx.free {T : TypeId} {W B x y} (h : Bx T W B x y) : W.frozen? ⟨B, 0, none⟩ = false ∧ W.frozen? ⟨B, 1, none⟩ = false := by
  unfold Bx at h
  constructor <;> simp [World.frozen?, h]
theorem Bx.below {T : TypeId} {W W' : World} {M B : Nat} {x y : Value} (h : Bx T W B x y) (hb : Below M W W') (hM : B < M) : Bx T W' B x y := (hb.block B hM).trans h
theorem Bx.on {T : TypeId} {W W' : World} {B : Nat} {x y : Value} (h : Bx T W B x y) (hb : Below W.heap.size W W') : Bx T W' B x y := h.below hb h.lt
theorem Bx.ond {T : TypeId} {W W' : World} {B : Nat} {x y : Value} (h : Bx T W B x y) (hb : Below W.drew.heap.size W.drew W') : Bx T W' B x y := h.below (((Below.refl W.heap.size W).drew).trans hb) h.lt
theorem Bx.new (T : TypeId) (W : World) (x y : Value) : Bx T (W.alloc (.cells #[x, y] T)) W.heap.size x y := World.alloc_heap_new W _
theorem Bx.alloc {T : TypeId} {W : World} {B x y} (h : Bx T W B x y) (o : Obj) : Bx T (W.alloc o) B x y := h.below ((Below.refl W.heap.size W).alloc (Nat.le_refl _) o) h.lt

noncomputable def vldB (l : L) : Bool := @decide (IsSet l) (Classical.propDecidable _)
theorem vldB_iff (l : L) : vldB l = true ↔ IsSet l := by unfold vldB; simp
theorem vldB_not (l : L) : vldB l = false ↔ ¬ IsSet l := by rw [Bool.eq_false_iff, ne_eq, vldB_iff]

/-- The To of the span ahead of number k. -/
def prevTo (l : L) (k : Nat) : Int := (l[k - 1]?.getD (0, 0)).2

theorem take_set {l : L} {k : Nat} (hk : k < l.length) : IsSet (l.take (k + 1)) ↔ IsSet (l.take k) ∧ okB (l[k]?.getD (0, 0)).1 (l[k]?.getD (0, 0)).2 = true ∧ ((l[k]?.getD (0, 0)).1 == (l[k]?.getD (0, 0)).2) = false ∧ (k = 0 ∨ prevTo l k < (l[k]?.getD (0, 0)).1) := by
  rw [List.take_succ_eq_append_getElem hk, IsSet, chain_snoc, okB_iff]
  have e : l[k]?.getD (0, 0) = l[k] := by simp [hk]
  rw [e]
  cases k with
  | zero => simp [lastTo, Chain, IsSet]; omega
  | succ k =>
    have e2 : prevTo l (k + 1) = (l[k]'(by omega)).2 := by unfold prevTo; simp [show k < l.length by omega]
    rw [List.take_succ_eq_append_getElem (by omega), lastTo_snoc, e2]
    constructor
    · rintro ⟨h1, h2, h3, h4⟩
      have := (chain_snoc.1 h1).2
      refine ⟨h1, ?_, by simp; omega, .inr h2⟩
      have := Chain.lastTo_ge (chain_snoc.1 h1).1
      omega
    · rintro ⟨h1, h2, h3, h4⟩
      simp at h3
      refine ⟨h1, by omega, by omega, by omega⟩

theorem set_take {lo : Int} {l : L} (h : Chain lo l) (k : Nat) : Chain lo (l.take k) := by
  induction l generalizing lo k with
  | nil => simpa using h
  | cons s t ih =>
    cases k with
    | zero => trivial
    | succ k => exact ⟨h.1, h.2.1, h.2.2.1, ih h.2.2.2 k⟩

theorem vld_no {l : L} {k : Nat} (hk : k < l.length) (h : ¬ (okB (l[k]?.getD (0, 0)).1 (l[k]?.getD (0, 0)).2 = true ∧ ((l[k]?.getD (0, 0)).1 == (l[k]?.getD (0, 0)).2) = false ∧ (k = 0 ∨ prevTo l k < (l[k]?.getD (0, 0)).1))) : vldB l = false := by
  rw [vldB_not]
  intro hs
  exact h ((take_set hk).1 (set_take hs (k + 1))).2

/-- What a function that only looks answers. -/
def Says (v : Value) (w : World) (e : Ending) (w' : World) : Prop := e = .returned v ∧ Below w.heap.size w w'

set_option maxRecDepth 100000 in
set_option maxHeartbeats 4000000 in
theorem Valid_any (v : Value) (l : L) (w : World) (h : Spn w v l) : Calls Tryz.prog 29 #[v] w (Says (.bool (vldB l)) w) := by
  have h' := h
  obtain ⟨a, cap, rfl, hlc, ⟨hcm, hcl, hcn⟩, hcs⟩ := h'
  clear hcn hcs
  have HS := Lib.hid h
  clear h
  go_enter Tryz.func29, Tryz.ntmps29
  go_wp2
  go_loopw [7] (fun i wr => ∃ k : Nat, k ≤ l.length ∧ i = .int .i64 k ∧ Below w.heap.size w wr ∧ Hid (IsSet (l.take k))) (fun i _ => l.length - (intOf i).toNat)
  case atStart => exact ⟨0, Nat.zero_le _, rfl, Below.refl _ _, Lib.hid (by simp [IsSet, Chain])⟩
  case round =>
    obtain ⟨k, hk, rfl, hb, HK⟩ := hrel
    by_cases hlt : k < l.length
    · have hne : l ≠ [] := by intro e; rw [e] at hlt; simp at hlt
      obtain ⟨b, off, rfl, hbw, hc⟩ := HS.out.block hne
      have c1 := (hb.cell (p := ⟨b, off + k * 2, none⟩) hbw).trans (hc k hlt).1
      have c2 := (hb.cell (p := ⟨b, off + k * 2 + 1, none⟩) hbw).trans (hc k hlt).2
      have hp : 0 < k → wr.cell? ⟨b, off + (k - 1) * 2 + 1, none⟩ = some (.int .i64 (prevTo l k)) := fun h0 => (hb.cell (p := ⟨b, off + (k - 1) * 2 + 1, none⟩) hbw).trans (hc (k - 1) (by omega)).2
      have HT := Lib.hid (take_set hlt)
      have HN := Lib.hid (vld_no hlt)
      obtain ⟨z, hz⟩ : ∃ z, z = prevTo l k := ⟨_, rfl⟩
      rw [← hz] at hp HT HN
      obtain ⟨x, hx⟩ : ∃ x, x = (l[k]?.getD (0, 0)).1 := ⟨_, rfl⟩
      obtain ⟨y, hy⟩ : ∃ y, y = (l[k]?.getD (0, 0)).2 := ⟨_, rfl⟩
      rw [← hx] at c1 HT HN
      rw [← hy] at c2 HT HN
      clear hx hy hc hz
      have hb1 := hb.alloc (by have := hb.size; omega) (.cells #[.int .i64 x, .int .i64 y] 31)
      have bx := Bx.new 31 wr (.int .i64 x) (.int .i64 y)
      have hsz : wr.heap.size < (wr.alloc (.cells #[.int .i64 x, .int .i64 y] 31)).heap.size := by simp
      have hbw' : b < wr.heap.size := Nat.lt_of_lt_of_le hbw hb.size
      rcases Bool.eq_false_or_eq_true (okB x y) with hok | hok
      · rcases Bool.eq_false_or_eq_true (x == y) with hem | hem
        · have HF := Lib.hid (HN.out (fun e => by rw [hem] at e; exact absurd e.2.1 (by decide)))
          have BX := Lib.hid bx
          have HB := Lib.hid hb1
          clear bx hb1
          have hw1 := fun W => isValid_yes x y W hok
          have HW := Lib.hid hw1
          have hw2 := fun W => isEmpty_any x y W
          rw [hem] at hw2
          have HW2 := Lib.hid hw2
          clear hw1 hw2
          go_wp2_with fail
          obtain ⟨W, hW⟩ : ∃ W, wr.alloc (.cells #[.int .i64 x, .int .i64 y] 31) = W := ⟨_, rfl⟩
          rw [hW] at BX HB hsz ⊢
          clear hW
          clear hok hem hp
          have hS0 := BX.out.cells
          refine wp_region_noPanic ?_
          refine wp_region_held_drew (S := (fun w' => w'.cell? ⟨wr.heap.size, 0, none⟩ = some (.int .i64 x) ∧ w'.cell? ⟨wr.heap.size, 1, none⟩ = some (.int .i64 y))) (by kernel_rfl) hS0 (fun hR0 => ?_)
          change wpAnyH _ _ _ _ _ 22 #[false, false, false, false, false, false, false, false, false, false, false, false, false, false, false, false, false, false, false, false, false, false] _ _
          clear hS0
          refine wpAnyH_take (i := 0) (oi := { dst := some 12, op := Op.load 31 (Operand.tmp 4), type := 31, pos := "span.go:9", after := #[], guard := none }) (v := ?_) rfl (by kernel_rfl) (by kernel_rfl) (by kernel_rfl) (fun _ _ _ h => h) (Or.inl ⟨by rfl, ?_⟩) (by assumption) ?_
          rotate_left 1
          · (intro w hSw; (try dsimp only at hSw); go_simp <;> (with_reducible rfl))
          (first | ((fail_if_success (unfold Act.put)); (try simp only [List.setIfInBounds_toArray, List.set_cons_zero, List.set_cons_succ])) | (try simp only [Act.put, List.setIfInBounds_toArray, List.set_cons_zero, List.set_cons_succ]))
          refine wpAnyH_ready (rs := [1]) (by kernel_rfl) (by simp) ?_
          refine AllReadyH.cons (o := { dst := some 13, op := Op.call { callee := Callee.value (Operand.func 47), args := #[Operand.tmp 12], argTypes := #[31] }, type := 4, pos := "span.go:9", after := #[{ on := 0, ground := Ground.data }], guard := none }) rfl (fun K hK => ?_) AllReadyH.nil
          go_simp
          go_at_call 47; refine (HW.out _).mono ?_; rintro e w1 ⟨rfl, hb2⟩; have hs1 : wr.heap.size < w1.heap.size := Nat.lt_of_lt_of_le hsz hb2.size
          (try go_wp2_with fail)
          refine hK.out _ _ (⟨(hb2.cell (p := ⟨wr.heap.size, 0, none⟩) hsz).trans hR0.1, (hb2.cell (p := ⟨wr.heap.size, 1, none⟩) hsz).trans hR0.2⟩) (fun hR1 => ?_)
          clear hK K hR0
          (first | ((fail_if_success (unfold Act.put)); (try simp only [List.setIfInBounds_toArray, List.set_cons_zero, List.set_cons_succ])) | (try simp only [Act.put, List.setIfInBounds_toArray, List.set_cons_zero, List.set_cons_succ]))
          refine wpAnyH_take (i := 2) (oi := { dst := some 14, op := Op.unOp UnOp.not 4 (Operand.tmp 13), type := 4, pos := "span.go:9", after := #[{ on := 1, ground := Ground.data }], guard := none }) (v := ?_) rfl (by kernel_rfl) (by kernel_rfl) (by kernel_rfl) (fun _ _ _ h => h) (Or.inl ⟨by rfl, ?_⟩) (by assumption) ?_
          rotate_left 1
          · (intro w hSw; (try dsimp only at hSw); go_simp <;> (with_reducible rfl))
          (first | ((fail_if_success (unfold Act.put)); (try simp only [List.setIfInBounds_toArray, List.set_cons_zero, List.set_cons_succ])) | (try simp only [Act.put, List.setIfInBounds_toArray, List.set_cons_zero, List.set_cons_succ]))
          refine wpAnyH_take (i := 3) (oi := { dst := some 15, op := Op.move (Operand.tmp 14), type := 4, pos := "span.go:9", after := #[{ on := 2, ground := Ground.data }, { on := 1, ground := Ground.chain }], guard := none }) (v := ?_) rfl (by kernel_rfl) (by kernel_rfl) (by kernel_rfl) (fun _ _ _ h => h) (Or.inl ⟨by rfl, ?_⟩) (by assumption) ?_
          rotate_left 1
          · (intro w hSw; (try dsimp only at hSw); go_simp <;> (with_reducible rfl))
          (first | ((fail_if_success (unfold Act.put)); (try simp only [List.setIfInBounds_toArray, List.set_cons_zero, List.set_cons_succ])) | (try simp only [Act.put, List.setIfInBounds_toArray, List.set_cons_zero, List.set_cons_succ]))
          refine wpAnyH_take (i := 4) (oi := { dst := some 16, op := Op.load 31 (Operand.tmp 4), type := 31, pos := "span.go:9", after := #[{ on := 3, ground := Ground.guard }], guard := some (3, false) }) (v := ?_) rfl (by kernel_rfl) (by kernel_rfl) (by kernel_rfl) (fun _ _ _ h => h) (Or.inl ⟨by rfl, ?_⟩) (by assumption) ?_
          rotate_left 1
          · (intro w hSw; (try dsimp only at hSw); go_simp <;> (with_reducible rfl))
          (first | ((fail_if_success (unfold Act.put)); (try simp only [List.setIfInBounds_toArray, List.set_cons_zero, List.set_cons_succ])) | (try simp only [Act.put, List.setIfInBounds_toArray, List.set_cons_zero, List.set_cons_succ]))
          refine wpAnyH_ready (rs := [5]) (by kernel_rfl) (by simp) ?_
          refine AllReadyH.cons (o := { dst := some 17, op := Op.call { callee := Callee.value (Operand.func 51), args := #[Operand.tmp 16], argTypes := #[31] }, type := 4, pos := "span.go:9", after := #[{ on := 4, ground := Ground.data }, { on := 3, ground := Ground.chain }, { on := 3, ground := Ground.guard }], guard := some (3, false) }) rfl (fun K hK => ?_) AllReadyH.nil
          go_simp
          go_at_call 51; refine (HW2.out _).mono ?_; rintro e w2 ⟨rfl, hb3⟩
          (try go_wp2_with fail)
          refine hK.out _ _ (⟨(hb3.cell (p := ⟨wr.heap.size, 0, none⟩) hs1).trans hR1.1, (hb3.cell (p := ⟨wr.heap.size, 1, none⟩) hs1).trans hR1.2⟩) (fun hR2 => ?_)
          clear hK K hR1
          (first | ((fail_if_success (unfold Act.put)); (try simp only [List.setIfInBounds_toArray, List.set_cons_zero, List.set_cons_succ])) | (try simp only [Act.put, List.setIfInBounds_toArray, List.set_cons_zero, List.set_cons_succ]))
          refine wpAnyH_take (i := 6) (oi := { dst := some 18, op := Op.pick (Operand.tmp 15) (Operand.const (Value.bool true)) (Operand.tmp 17), type := 4, pos := "span.go:9", after := #[{ on := 3, ground := Ground.data }, { on := 5, ground := Ground.data }], guard := none }) (v := ?_) rfl (by kernel_rfl) (by kernel_rfl) (by kernel_rfl) (fun _ _ _ h => h) (Or.inl ⟨by rfl, ?_⟩) (by assumption) ?_
          rotate_left 1
          · (intro w hSw; (try dsimp only at hSw); go_simp <;> (with_reducible rfl))
          (first | ((fail_if_success (unfold Act.put)); (try simp only [List.setIfInBounds_toArray, List.set_cons_zero, List.set_cons_succ])) | (try simp only [Act.put, List.setIfInBounds_toArray, List.set_cons_zero, List.set_cons_succ]))
          refine wpAnyH_take (i := 7) (oi := { dst := some 19, op := Op.move (Operand.tmp 18), type := 4, pos := "span.go:9", after := #[{ on := 6, ground := Ground.data }, { on := 5, ground := Ground.chain }], guard := none }) (v := ?_) rfl (by kernel_rfl) (by kernel_rfl) (by kernel_rfl) (fun _ _ _ h => h) (Or.inl ⟨by rfl, ?_⟩) (by assumption) ?_
          rotate_left 1
          · (intro w hSw; (try dsimp only at hSw); go_simp <;> (with_reducible rfl))
          (first | ((fail_if_success (unfold Act.put)); (try simp only [List.setIfInBounds_toArray, List.set_cons_zero, List.set_cons_succ])) | (try simp only [Act.put, List.setIfInBounds_toArray, List.set_cons_zero, List.set_cons_succ]))
          refine wpAnyH_take (i := 8) (oi := { dst := some 20, op := Op.move (Operand.tmp 3), type := 3, pos := "span.go:9", after := #[{ on := 7, ground := Ground.guard }], guard := some (7, false) }) (v := undef) rfl (by kernel_rfl) (by kernel_rfl) (by kernel_rfl) (fun _ _ _ h => h) (Or.inr ⟨by rfl, rfl⟩) (by assumption) ?_
          (first | ((fail_if_success (unfold Act.put)); (try simp only [List.setIfInBounds_toArray, List.set_cons_zero, List.set_cons_succ])) | (try simp only [Act.put, List.setIfInBounds_toArray, List.set_cons_zero, List.set_cons_succ]))
          refine wpAnyH_take (i := 9) (oi := { dst := some 21, op := Op.binOp BinOp.gtr 3 (Operand.tmp 20) (Operand.const (Value.int IntKind.i64 0)) 3, type := 4, pos := "span.go:9", after := #[{ on := 8, ground := Ground.data }, { on := 7, ground := Ground.guard }], guard := some (7, false) }) (v := undef) rfl (by kernel_rfl) (by kernel_rfl) (by kernel_rfl) (fun _ _ _ h => h) (Or.inr ⟨by rfl, rfl⟩) (by assumption) ?_
          (first | ((fail_if_success (unfold Act.put)); (try simp only [List.setIfInBounds_toArray, List.set_cons_zero, List.set_cons_succ])) | (try simp only [Act.put, List.setIfInBounds_toArray, List.set_cons_zero, List.set_cons_succ]))
          refine wpAnyH_take (i := 10) (oi := { dst := some 22, op := Op.move (Operand.tmp 21), type := 4, pos := "span.go:9", after := #[{ on := 9, ground := Ground.data }, { on := 7, ground := Ground.chain }, { on := 7, ground := Ground.guard }], guard := some (7, false) }) (v := undef) rfl (by kernel_rfl) (by kernel_rfl) (by kernel_rfl) (fun _ _ _ h => h) (Or.inr ⟨by rfl, rfl⟩) (by assumption) ?_
          (first | ((fail_if_success (unfold Act.put)); (try simp only [List.setIfInBounds_toArray, List.set_cons_zero, List.set_cons_succ])) | (try simp only [Act.put, List.setIfInBounds_toArray, List.set_cons_zero, List.set_cons_succ]))
          refine wpAnyH_take (i := 11) (oi := { dst := some 23, op := Op.fieldAddr 31 (Operand.tmp 4) 0, type := 0, pos := "span.go:9", after := #[{ on := 10, ground := Ground.guard }], guard := some (10, true) }) (v := undef) rfl (by kernel_rfl) (by kernel_rfl) (by kernel_rfl) (fun _ _ _ h => h) (Or.inr ⟨by rfl, rfl⟩) (by assumption) ?_
          (first | ((fail_if_success (unfold Act.put)); (try simp only [List.setIfInBounds_toArray, List.set_cons_zero, List.set_cons_succ])) | (try simp only [Act.put, List.setIfInBounds_toArray, List.set_cons_zero, List.set_cons_succ]))
          refine wpAnyH_take (i := 12) (oi := { dst := some 24, op := Op.load 3 (Operand.tmp 23), type := 3, pos := "span.go:9", after := #[{ on := 11, ground := Ground.data }, { on := 10, ground := Ground.guard }], guard := some (10, true) }) (v := undef) rfl (by kernel_rfl) (by kernel_rfl) (by kernel_rfl) (fun _ _ _ h => h) (Or.inr ⟨by rfl, rfl⟩) (by assumption) ?_
          (first | ((fail_if_success (unfold Act.put)); (try simp only [List.setIfInBounds_toArray, List.set_cons_zero, List.set_cons_succ])) | (try simp only [Act.put, List.setIfInBounds_toArray, List.set_cons_zero, List.set_cons_succ]))
          refine wpAnyH_take (i := 13) (oi := { dst := some 25, op := Op.move (Operand.tmp 0), type := 22, pos := "span.go:9", after := #[{ on := 10, ground := Ground.guard }], guard := some (10, true) }) (v := undef) rfl (by kernel_rfl) (by kernel_rfl) (by kernel_rfl) (fun _ _ _ h => h) (Or.inr ⟨by rfl, rfl⟩) (by assumption) ?_
          (first | ((fail_if_success (unfold Act.put)); (try simp only [List.setIfInBounds_toArray, List.set_cons_zero, List.set_cons_succ])) | (try simp only [Act.put, List.setIfInBounds_toArray, List.set_cons_zero, List.set_cons_succ]))
          refine wpAnyH_take (i := 14) (oi := { dst := some 26, op := Op.move (Operand.tmp 3), type := 3, pos := "span.go:9", after := #[{ on := 10, ground := Ground.guard }], guard := some (10, true) }) (v := undef) rfl (by kernel_rfl) (by kernel_rfl) (by kernel_rfl) (fun _ _ _ h => h) (Or.inr ⟨by rfl, rfl⟩) (by assumption) ?_
          (first | ((fail_if_success (unfold Act.put)); (try simp only [List.setIfInBounds_toArray, List.set_cons_zero, List.set_cons_succ])) | (try simp only [Act.put, List.setIfInBounds_toArray, List.set_cons_zero, List.set_cons_succ]))
          refine wpAnyH_take (i := 15) (oi := { dst := some 27, op := Op.binOp BinOp.sub 3 (Operand.tmp 26) (Operand.const (Value.int IntKind.i64 1)) 3, type := 3, pos := "span.go:9", after := #[{ on := 14, ground := Ground.data }, { on := 10, ground := Ground.guard }], guard := some (10, true) }) (v := undef) rfl (by kernel_rfl) (by kernel_rfl) (by kernel_rfl) (fun _ _ _ h => h) (Or.inr ⟨by rfl, rfl⟩) (by assumption) ?_
          (first | ((fail_if_success (unfold Act.put)); (try simp only [List.setIfInBounds_toArray, List.set_cons_zero, List.set_cons_succ])) | (try simp only [Act.put, List.setIfInBounds_toArray, List.set_cons_zero, List.set_cons_succ]))
          refine wpAnyH_take (i := 16) (oi := { dst := some 28, op := Op.indexAddr 22 (Operand.tmp 25) (Operand.tmp 27), type := 0, pos := "span.go:9", after := #[{ on := 13, ground := Ground.data }, { on := 15, ground := Ground.data }, { on := 10, ground := Ground.guard }], guard := some (10, true) }) (v := undef) rfl (by kernel_rfl) (by kernel_rfl) (by kernel_rfl) (fun _ _ _ h => h) (Or.inr ⟨by rfl, rfl⟩) (by assumption) ?_
          (first | ((fail_if_success (unfold Act.put)); (try simp only [List.setIfInBounds_toArray, List.set_cons_zero, List.set_cons_succ])) | (try simp only [Act.put, List.setIfInBounds_toArray, List.set_cons_zero, List.set_cons_succ]))
          refine wpAnyH_take (i := 17) (oi := { dst := some 29, op := Op.fieldAddr 31 (Operand.tmp 28) 1, type := 0, pos := "span.go:9", after := #[{ on := 16, ground := Ground.data }, { on := 10, ground := Ground.guard }], guard := some (10, true) }) (v := undef) rfl (by kernel_rfl) (by kernel_rfl) (by kernel_rfl) (fun _ _ _ h => h) (Or.inr ⟨by rfl, rfl⟩) (by assumption) ?_
          (first | ((fail_if_success (unfold Act.put)); (try simp only [List.setIfInBounds_toArray, List.set_cons_zero, List.set_cons_succ])) | (try simp only [Act.put, List.setIfInBounds_toArray, List.set_cons_zero, List.set_cons_succ]))
          refine wpAnyH_take (i := 18) (oi := { dst := some 30, op := Op.load 3 (Operand.tmp 29), type := 3, pos := "span.go:9", after := #[{ on := 17, ground := Ground.data }, { on := 10, ground := Ground.guard }], guard := some (10, true) }) (v := undef) rfl (by kernel_rfl) (by kernel_rfl) (by kernel_rfl) (fun _ _ _ h => h) (Or.inr ⟨by rfl, rfl⟩) (by assumption) ?_
          (first | ((fail_if_success (unfold Act.put)); (try simp only [List.setIfInBounds_toArray, List.set_cons_zero, List.set_cons_succ])) | (try simp only [Act.put, List.setIfInBounds_toArray, List.set_cons_zero, List.set_cons_succ]))
          refine wpAnyH_take (i := 19) (oi := { dst := some 31, op := Op.binOp BinOp.leq 3 (Operand.tmp 24) (Operand.tmp 30) 3, type := 4, pos := "span.go:9", after := #[{ on := 12, ground := Ground.data }, { on := 18, ground := Ground.data }, { on := 10, ground := Ground.guard }], guard := some (10, true) }) (v := undef) rfl (by kernel_rfl) (by kernel_rfl) (by kernel_rfl) (fun _ _ _ h => h) (Or.inr ⟨by rfl, rfl⟩) (by assumption) ?_
          (first | ((fail_if_success (unfold Act.put)); (try simp only [List.setIfInBounds_toArray, List.set_cons_zero, List.set_cons_succ])) | (try simp only [Act.put, List.setIfInBounds_toArray, List.set_cons_zero, List.set_cons_succ]))
          refine wpAnyH_take (i := 20) (oi := { dst := some 32, op := Op.pick (Operand.tmp 22) (Operand.tmp 31) (Operand.const (Value.bool false)), type := 4, pos := "span.go:9", after := #[{ on := 10, ground := Ground.data }, { on := 19, ground := Ground.data }, { on := 7, ground := Ground.guard }], guard := some (7, false) }) (v := undef) rfl (by kernel_rfl) (by kernel_rfl) (by kernel_rfl) (fun _ _ _ h => h) (Or.inr ⟨by rfl, rfl⟩) (by assumption) ?_
          (first | ((fail_if_success (unfold Act.put)); (try simp only [List.setIfInBounds_toArray, List.set_cons_zero, List.set_cons_succ])) | (try simp only [Act.put, List.setIfInBounds_toArray, List.set_cons_zero, List.set_cons_succ]))
          refine wpAnyH_take (i := 21) (oi := { dst := some 33, op := Op.pick (Operand.tmp 19) (Operand.const (Value.bool true)) (Operand.tmp 32), type := 4, pos := "span.go:9", after := #[{ on := 7, ground := Ground.data }, { on := 20, ground := Ground.data }], guard := none }) (v := ?_) rfl (by kernel_rfl) (by kernel_rfl) (by kernel_rfl) (fun _ _ _ h => h) (Or.inl ⟨by rfl, ?_⟩) (by assumption) ?_
          rotate_left 1
          · (intro w hSw; (try dsimp only at hSw); go_simp <;> (with_reducible rfl))
          (first | ((fail_if_success (unfold Act.put)); (try simp only [List.setIfInBounds_toArray, List.set_cons_zero, List.set_cons_succ])) | (try simp only [Act.put, List.setIfInBounds_toArray, List.set_cons_zero, List.set_cons_succ]))
          refine wpAnyH_done (by kernel_rfl) ?_ _
          refine NoPanic.normal ?_
          clear hR2
          have hfin := (HB.out.trans (((Below.refl _ _).drew).trans (hb2.mono (Nat.le_of_lt (Nat.lt_of_le_of_lt hb.size hsz))))).trans (hb3.mono (Nat.le_of_lt (Nat.lt_of_le_of_lt hb.size hs1)))
          clear hb hb2 hb3
          go_wp2
          go_ret
          exact ⟨by rw [HF.out]; rfl, hfin⟩
        · by_cases h0 : 0 < k
          · have hpz := hp h0
            have q1 : IntKind.i64.wrap ((k : Int) - 1) = (k : Int) - 1 := IntWalk.i64_in _ (by omega)
            have q2 : (1 : Int) ≤ (k : Int) := by omega
            have q3 : (k : Int) - 1 < (l.length : Int) := by omega
            have q4 : ((k : Int) - 1).toNat = k - 1 := by omega
            have q5 : k - 1 < l.length := by omega
            by_cases hzx : x ≤ z
            · have HF := Lib.hid (HN.out (fun e => by rcases e.2.2 with e | e <;> omega))
              have BX := Lib.hid bx
              have HB := Lib.hid hb1
              clear bx hb1
              have hw1 := fun W => isValid_yes x y W hok
              have HW := Lib.hid hw1
              have hw2 := fun W => isEmpty_any x y W
              rw [hem] at hw2
              have HW2 := Lib.hid hw2
              clear hw1 hw2
              go_wp2_with fail
              obtain ⟨W, hW⟩ : ∃ W, wr.alloc (.cells #[.int .i64 x, .int .i64 y] 31) = W := ⟨_, rfl⟩
              rw [hW] at BX HB hsz ⊢
              clear hok hem hp
              have hS0 := BX.out.cells
              have hS1 : W.cell? ⟨b, off + (k - 1) * 2 + 1, none⟩ = some (.int .i64 z) := by rw [← hW]; exact (World.cell?_alloc_lt _ _ _ hbw').trans hpz
              refine wp_region_noPanic ?_
              refine wp_region_held_drew (S := (fun w' => w'.cell? ⟨wr.heap.size, 0, none⟩ = some (.int .i64 x) ∧ w'.cell? ⟨wr.heap.size, 1, none⟩ = some (.int .i64 y) ∧ w'.cell? ⟨b, off + (k - 1) * 2 + 1, none⟩ = some (.int .i64 z))) (by kernel_rfl) ⟨hS0.1, hS0.2, hS1⟩ (fun hR0 => ?_)
              change wpAnyH _ _ _ _ _ 22 #[false, false, false, false, false, false, false, false, false, false, false, false, false, false, false, false, false, false, false, false, false, false] _ _
              clear hS0 hS1 hpz
              refine wpAnyH_take (i := 0) (oi := { dst := some 12, op := Op.load 31 (Operand.tmp 4), type := 31, pos := "span.go:9", after := #[], guard := none }) (v := ?_) rfl (by kernel_rfl) (by kernel_rfl) (by kernel_rfl) (fun _ _ _ h => h) (Or.inl ⟨by rfl, ?_⟩) (by assumption) ?_
              rotate_left 1
              · (intro w hSw; (try dsimp only at hSw); go_simp <;> (with_reducible rfl))
              (first | ((fail_if_success (unfold Act.put)); (try simp only [List.setIfInBounds_toArray, List.set_cons_zero, List.set_cons_succ])) | (try simp only [Act.put, List.setIfInBounds_toArray, List.set_cons_zero, List.set_cons_succ]))
              refine wpAnyH_ready (rs := [1]) (by kernel_rfl) (by simp) ?_
              refine AllReadyH.cons (o := { dst := some 13, op := Op.call { callee := Callee.value (Operand.func 47), args := #[Operand.tmp 12], argTypes := #[31] }, type := 4, pos := "span.go:9", after := #[{ on := 0, ground := Ground.data }], guard := none }) rfl (fun K hK => ?_) AllReadyH.nil
              go_simp
              go_at_call 47; refine (HW.out _).mono ?_; rintro e w1 ⟨rfl, hb2⟩; have hs1 : wr.heap.size < w1.heap.size := Nat.lt_of_lt_of_le hsz hb2.size
              (try go_wp2_with fail)
              refine hK.out _ _ (⟨(hb2.cell (p := ⟨wr.heap.size, 0, none⟩) hsz).trans hR0.1, (hb2.cell (p := ⟨wr.heap.size, 1, none⟩) hsz).trans hR0.2.1, (hb2.cell (p := ⟨b, off + (k - 1) * 2 + 1, none⟩) (Nat.lt_trans hbw' hsz)).trans hR0.2.2⟩) (fun hR1 => ?_)
              clear hK K hR0
              (first | ((fail_if_success (unfold Act.put)); (try simp only [List.setIfInBounds_toArray, List.set_cons_zero, List.set_cons_succ])) | (try simp only [Act.put, List.setIfInBounds_toArray, List.set_cons_zero, List.set_cons_succ]))
              refine wpAnyH_take (i := 2) (oi := { dst := some 14, op := Op.unOp UnOp.not 4 (Operand.tmp 13), type := 4, pos := "span.go:9", after := #[{ on := 1, ground := Ground.data }], guard := none }) (v := ?_) rfl (by kernel_rfl) (by kernel_rfl) (by kernel_rfl) (fun _ _ _ h => h) (Or.inl ⟨by rfl, ?_⟩) (by assumption) ?_
              rotate_left 1
              · (intro w hSw; (try dsimp only at hSw); go_simp <;> (with_reducible rfl))
              (first | ((fail_if_success (unfold Act.put)); (try simp only [List.setIfInBounds_toArray, List.set_cons_zero, List.set_cons_succ])) | (try simp only [Act.put, List.setIfInBounds_toArray, List.set_cons_zero, List.set_cons_succ]))
              refine wpAnyH_take (i := 3) (oi := { dst := some 15, op := Op.move (Operand.tmp 14), type := 4, pos := "span.go:9", after := #[{ on := 2, ground := Ground.data }, { on := 1, ground := Ground.chain }], guard := none }) (v := ?_) rfl (by kernel_rfl) (by kernel_rfl) (by kernel_rfl) (fun _ _ _ h => h) (Or.inl ⟨by rfl, ?_⟩) (by assumption) ?_
              rotate_left 1
              · (intro w hSw; (try dsimp only at hSw); go_simp <;> (with_reducible rfl))
              (first | ((fail_if_success (unfold Act.put)); (try simp only [List.setIfInBounds_toArray, List.set_cons_zero, List.set_cons_succ])) | (try simp only [Act.put, List.setIfInBounds_toArray, List.set_cons_zero, List.set_cons_succ]))
              refine wpAnyH_take (i := 4) (oi := { dst := some 16, op := Op.load 31 (Operand.tmp 4), type := 31, pos := "span.go:9", after := #[{ on := 3, ground := Ground.guard }], guard := some (3, false) }) (v := ?_) rfl (by kernel_rfl) (by kernel_rfl) (by kernel_rfl) (fun _ _ _ h => h) (Or.inl ⟨by rfl, ?_⟩) (by assumption) ?_
              rotate_left 1
              · (intro w hSw; (try dsimp only at hSw); go_simp <;> (with_reducible rfl))
              (first | ((fail_if_success (unfold Act.put)); (try simp only [List.setIfInBounds_toArray, List.set_cons_zero, List.set_cons_succ])) | (try simp only [Act.put, List.setIfInBounds_toArray, List.set_cons_zero, List.set_cons_succ]))
              refine wpAnyH_ready (rs := [5]) (by kernel_rfl) (by simp) ?_
              refine AllReadyH.cons (o := { dst := some 17, op := Op.call { callee := Callee.value (Operand.func 51), args := #[Operand.tmp 16], argTypes := #[31] }, type := 4, pos := "span.go:9", after := #[{ on := 4, ground := Ground.data }, { on := 3, ground := Ground.chain }, { on := 3, ground := Ground.guard }], guard := some (3, false) }) rfl (fun K hK => ?_) AllReadyH.nil
              go_simp
              go_at_call 51; refine (HW2.out _).mono ?_; rintro e w2 ⟨rfl, hb3⟩
              (try go_wp2_with fail)
              refine hK.out _ _ (⟨(hb3.cell (p := ⟨wr.heap.size, 0, none⟩) hs1).trans hR1.1, (hb3.cell (p := ⟨wr.heap.size, 1, none⟩) hs1).trans hR1.2.1, (hb3.cell (p := ⟨b, off + (k - 1) * 2 + 1, none⟩) (Nat.lt_trans hbw' hs1)).trans hR1.2.2⟩) (fun hR2 => ?_)
              clear hK K hR1
              (first | ((fail_if_success (unfold Act.put)); (try simp only [List.setIfInBounds_toArray, List.set_cons_zero, List.set_cons_succ])) | (try simp only [Act.put, List.setIfInBounds_toArray, List.set_cons_zero, List.set_cons_succ]))
              refine wpAnyH_take (i := 6) (oi := { dst := some 18, op := Op.pick (Operand.tmp 15) (Operand.const (Value.bool true)) (Operand.tmp 17), type := 4, pos := "span.go:9", after := #[{ on := 3, ground := Ground.data }, { on := 5, ground := Ground.data }], guard := none }) (v := ?_) rfl (by kernel_rfl) (by kernel_rfl) (by kernel_rfl) (fun _ _ _ h => h) (Or.inl ⟨by rfl, ?_⟩) (by assumption) ?_
              rotate_left 1
              · (intro w hSw; (try dsimp only at hSw); go_simp <;> (with_reducible rfl))
              (first | ((fail_if_success (unfold Act.put)); (try simp only [List.setIfInBounds_toArray, List.set_cons_zero, List.set_cons_succ])) | (try simp only [Act.put, List.setIfInBounds_toArray, List.set_cons_zero, List.set_cons_succ]))
              refine wpAnyH_take (i := 7) (oi := { dst := some 19, op := Op.move (Operand.tmp 18), type := 4, pos := "span.go:9", after := #[{ on := 6, ground := Ground.data }, { on := 5, ground := Ground.chain }], guard := none }) (v := ?_) rfl (by kernel_rfl) (by kernel_rfl) (by kernel_rfl) (fun _ _ _ h => h) (Or.inl ⟨by rfl, ?_⟩) (by assumption) ?_
              rotate_left 1
              · (intro w hSw; (try dsimp only at hSw); go_simp <;> (with_reducible rfl))
              (first | ((fail_if_success (unfold Act.put)); (try simp only [List.setIfInBounds_toArray, List.set_cons_zero, List.set_cons_succ])) | (try simp only [Act.put, List.setIfInBounds_toArray, List.set_cons_zero, List.set_cons_succ]))
              refine wpAnyH_take (i := 8) (oi := { dst := some 20, op := Op.move (Operand.tmp 3), type := 3, pos := "span.go:9", after := #[{ on := 7, ground := Ground.guard }], guard := some (7, false) }) (v := ?_) rfl (by kernel_rfl) (by kernel_rfl) (by kernel_rfl) (fun _ _ _ h => h) (Or.inl ⟨by rfl, ?_⟩) (by assumption) ?_
              rotate_left 1
              · (intro w hSw; (try dsimp only at hSw); go_simp <;> (with_reducible rfl))
              (first | ((fail_if_success (unfold Act.put)); (try simp only [List.setIfInBounds_toArray, List.set_cons_zero, List.set_cons_succ])) | (try simp only [Act.put, List.setIfInBounds_toArray, List.set_cons_zero, List.set_cons_succ]))
              refine wpAnyH_take (i := 9) (oi := { dst := some 21, op := Op.binOp BinOp.gtr 3 (Operand.tmp 20) (Operand.const (Value.int IntKind.i64 0)) 3, type := 4, pos := "span.go:9", after := #[{ on := 8, ground := Ground.data }, { on := 7, ground := Ground.guard }], guard := some (7, false) }) (v := ?_) rfl (by kernel_rfl) (by kernel_rfl) (by kernel_rfl) (fun _ _ _ h => h) (Or.inl ⟨by rfl, ?_⟩) (by assumption) ?_
              rotate_left 1
              · (intro w hSw; (try dsimp only at hSw); go_simp <;> (with_reducible rfl))
              (first | ((fail_if_success (unfold Act.put)); (try simp only [List.setIfInBounds_toArray, List.set_cons_zero, List.set_cons_succ])) | (try simp only [Act.put, List.setIfInBounds_toArray, List.set_cons_zero, List.set_cons_succ]))
              refine wpAnyH_take (i := 10) (oi := { dst := some 22, op := Op.move (Operand.tmp 21), type := 4, pos := "span.go:9", after := #[{ on := 9, ground := Ground.data }, { on := 7, ground := Ground.chain }, { on := 7, ground := Ground.guard }], guard := some (7, false) }) (v := ?_) rfl (by kernel_rfl) (by kernel_rfl) (by kernel_rfl) (fun _ _ _ h => h) (Or.inl ⟨by rfl, ?_⟩) (by assumption) ?_
              rotate_left 1
              · (intro w hSw; (try dsimp only at hSw); go_simp <;> (with_reducible rfl))
              (first | ((fail_if_success (unfold Act.put)); (try simp only [List.setIfInBounds_toArray, List.set_cons_zero, List.set_cons_succ])) | (try simp only [Act.put, List.setIfInBounds_toArray, List.set_cons_zero, List.set_cons_succ]))
              refine wpAnyH_take (i := 11) (oi := { dst := some 23, op := Op.fieldAddr 31 (Operand.tmp 4) 0, type := 0, pos := "span.go:9", after := #[{ on := 10, ground := Ground.guard }], guard := some (10, true) }) (v := ?_) rfl (by kernel_rfl) (by kernel_rfl) (by kernel_rfl) (fun _ _ _ h => h) (Or.inl ⟨by rfl, ?_⟩) (by assumption) ?_
              rotate_left 1
              · (intro w hSw; (try dsimp only at hSw); go_simp <;> (with_reducible rfl))
              (first | ((fail_if_success (unfold Act.put)); (try simp only [List.setIfInBounds_toArray, List.set_cons_zero, List.set_cons_succ])) | (try simp only [Act.put, List.setIfInBounds_toArray, List.set_cons_zero, List.set_cons_succ]))
              refine wpAnyH_take (i := 12) (oi := { dst := some 24, op := Op.load 3 (Operand.tmp 23), type := 3, pos := "span.go:9", after := #[{ on := 11, ground := Ground.data }, { on := 10, ground := Ground.guard }], guard := some (10, true) }) (v := ?_) rfl (by kernel_rfl) (by kernel_rfl) (by kernel_rfl) (fun _ _ _ h => h) (Or.inl ⟨by rfl, ?_⟩) (by assumption) ?_
              rotate_left 1
              · (intro w hSw; (try dsimp only at hSw); go_simp <;> (with_reducible rfl))
              (first | ((fail_if_success (unfold Act.put)); (try simp only [List.setIfInBounds_toArray, List.set_cons_zero, List.set_cons_succ])) | (try simp only [Act.put, List.setIfInBounds_toArray, List.set_cons_zero, List.set_cons_succ]))
              refine wpAnyH_take (i := 13) (oi := { dst := some 25, op := Op.move (Operand.tmp 0), type := 22, pos := "span.go:9", after := #[{ on := 10, ground := Ground.guard }], guard := some (10, true) }) (v := ?_) rfl (by kernel_rfl) (by kernel_rfl) (by kernel_rfl) (fun _ _ _ h => h) (Or.inl ⟨by rfl, ?_⟩) (by assumption) ?_
              rotate_left 1
              · (intro w hSw; (try dsimp only at hSw); go_simp <;> (with_reducible rfl))
              (first | ((fail_if_success (unfold Act.put)); (try simp only [List.setIfInBounds_toArray, List.set_cons_zero, List.set_cons_succ])) | (try simp only [Act.put, List.setIfInBounds_toArray, List.set_cons_zero, List.set_cons_succ]))
              refine wpAnyH_take (i := 14) (oi := { dst := some 26, op := Op.move (Operand.tmp 3), type := 3, pos := "span.go:9", after := #[{ on := 10, ground := Ground.guard }], guard := some (10, true) }) (v := ?_) rfl (by kernel_rfl) (by kernel_rfl) (by kernel_rfl) (fun _ _ _ h => h) (Or.inl ⟨by rfl, ?_⟩) (by assumption) ?_
              rotate_left 1
              · (intro w hSw; (try dsimp only at hSw); go_simp <;> (with_reducible rfl))
              (first | ((fail_if_success (unfold Act.put)); (try simp only [List.setIfInBounds_toArray, List.set_cons_zero, List.set_cons_succ])) | (try simp only [Act.put, List.setIfInBounds_toArray, List.set_cons_zero, List.set_cons_succ]))
              refine wpAnyH_take (i := 15) (oi := { dst := some 27, op := Op.binOp BinOp.sub 3 (Operand.tmp 26) (Operand.const (Value.int IntKind.i64 1)) 3, type := 3, pos := "span.go:9", after := #[{ on := 14, ground := Ground.data }, { on := 10, ground := Ground.guard }], guard := some (10, true) }) (v := ?_) rfl (by kernel_rfl) (by kernel_rfl) (by kernel_rfl) (fun _ _ _ h => h) (Or.inl ⟨by rfl, ?_⟩) (by assumption) ?_
              rotate_left 1
              · (intro w hSw; (try dsimp only at hSw); go_simp <;> (with_reducible rfl))
              (first | ((fail_if_success (unfold Act.put)); (try simp only [List.setIfInBounds_toArray, List.set_cons_zero, List.set_cons_succ])) | (try simp only [Act.put, List.setIfInBounds_toArray, List.set_cons_zero, List.set_cons_succ]))
              refine wpAnyH_take (i := 16) (oi := { dst := some 28, op := Op.indexAddr 22 (Operand.tmp 25) (Operand.tmp 27), type := 0, pos := "span.go:9", after := #[{ on := 13, ground := Ground.data }, { on := 15, ground := Ground.data }, { on := 10, ground := Ground.guard }], guard := some (10, true) }) (v := ?_) rfl (by kernel_rfl) (by kernel_rfl) (by kernel_rfl) (fun _ _ _ h => h) (Or.inl ⟨by rfl, ?_⟩) (by assumption) ?_
              rotate_left 1
              · (intro w hSw; (try dsimp only at hSw); go_simp <;> (with_reducible rfl))
              (first | ((fail_if_success (unfold Act.put)); (try simp only [List.setIfInBounds_toArray, List.set_cons_zero, List.set_cons_succ])) | (try simp only [Act.put, List.setIfInBounds_toArray, List.set_cons_zero, List.set_cons_succ]))
              refine wpAnyH_take (i := 17) (oi := { dst := some 29, op := Op.fieldAddr 31 (Operand.tmp 28) 1, type := 0, pos := "span.go:9", after := #[{ on := 16, ground := Ground.data }, { on := 10, ground := Ground.guard }], guard := some (10, true) }) (v := ?_) rfl (by kernel_rfl) (by kernel_rfl) (by kernel_rfl) (fun _ _ _ h => h) (Or.inl ⟨by rfl, ?_⟩) (by assumption) ?_
              rotate_left 1
              · (intro w hSw; (try dsimp only at hSw); go_simp <;> (with_reducible rfl))
              (first | ((fail_if_success (unfold Act.put)); (try simp only [List.setIfInBounds_toArray, List.set_cons_zero, List.set_cons_succ])) | (try simp only [Act.put, List.setIfInBounds_toArray, List.set_cons_zero, List.set_cons_succ]))
              refine wpAnyH_take (i := 18) (oi := { dst := some 30, op := Op.load 3 (Operand.tmp 29), type := 3, pos := "span.go:9", after := #[{ on := 17, ground := Ground.data }, { on := 10, ground := Ground.guard }], guard := some (10, true) }) (v := ?_) rfl (by kernel_rfl) (by kernel_rfl) (by kernel_rfl) (fun _ _ _ h => h) (Or.inl ⟨by rfl, ?_⟩) (by assumption) ?_
              rotate_left 1
              · (intro w hSw; (try dsimp only at hSw); go_simp <;> (with_reducible rfl))
              (first | ((fail_if_success (unfold Act.put)); (try simp only [List.setIfInBounds_toArray, List.set_cons_zero, List.set_cons_succ])) | (try simp only [Act.put, List.setIfInBounds_toArray, List.set_cons_zero, List.set_cons_succ]))
              refine wpAnyH_take (i := 19) (oi := { dst := some 31, op := Op.binOp BinOp.leq 3 (Operand.tmp 24) (Operand.tmp 30) 3, type := 4, pos := "span.go:9", after := #[{ on := 12, ground := Ground.data }, { on := 18, ground := Ground.data }, { on := 10, ground := Ground.guard }], guard := some (10, true) }) (v := ?_) rfl (by kernel_rfl) (by kernel_rfl) (by kernel_rfl) (fun _ _ _ h => h) (Or.inl ⟨by rfl, ?_⟩) (by assumption) ?_
              rotate_left 1
              · (intro w hSw; (try dsimp only at hSw); go_simp <;> (with_reducible rfl))
              (first | ((fail_if_success (unfold Act.put)); (try simp only [List.setIfInBounds_toArray, List.set_cons_zero, List.set_cons_succ])) | (try simp only [Act.put, List.setIfInBounds_toArray, List.set_cons_zero, List.set_cons_succ]))
              refine wpAnyH_take (i := 20) (oi := { dst := some 32, op := Op.pick (Operand.tmp 22) (Operand.tmp 31) (Operand.const (Value.bool false)), type := 4, pos := "span.go:9", after := #[{ on := 10, ground := Ground.data }, { on := 19, ground := Ground.data }, { on := 7, ground := Ground.guard }], guard := some (7, false) }) (v := ?_) rfl (by kernel_rfl) (by kernel_rfl) (by kernel_rfl) (fun _ _ _ h => h) (Or.inl ⟨by rfl, ?_⟩) (by assumption) ?_
              rotate_left 1
              · (intro w hSw; (try dsimp only at hSw); go_simp <;> (with_reducible rfl))
              (first | ((fail_if_success (unfold Act.put)); (try simp only [List.setIfInBounds_toArray, List.set_cons_zero, List.set_cons_succ])) | (try simp only [Act.put, List.setIfInBounds_toArray, List.set_cons_zero, List.set_cons_succ]))
              refine wpAnyH_take (i := 21) (oi := { dst := some 33, op := Op.pick (Operand.tmp 19) (Operand.const (Value.bool true)) (Operand.tmp 32), type := 4, pos := "span.go:9", after := #[{ on := 7, ground := Ground.data }, { on := 20, ground := Ground.data }], guard := none }) (v := ?_) rfl (by kernel_rfl) (by kernel_rfl) (by kernel_rfl) (fun _ _ _ h => h) (Or.inl ⟨by rfl, ?_⟩) (by assumption) ?_
              rotate_left 1
              · (intro w hSw; (try dsimp only at hSw); go_simp <;> (with_reducible rfl))
              (first | ((fail_if_success (unfold Act.put)); (try simp only [List.setIfInBounds_toArray, List.set_cons_zero, List.set_cons_succ])) | (try simp only [Act.put, List.setIfInBounds_toArray, List.set_cons_zero, List.set_cons_succ]))
              refine wpAnyH_done (by kernel_rfl) ?_ _
              refine NoPanic.normal ?_
              clear hR2
              have hfin := (HB.out.trans (((Below.refl _ _).drew).trans (hb2.mono (Nat.le_of_lt (Nat.lt_of_le_of_lt hb.size hsz))))).trans (hb3.mono (Nat.le_of_lt (Nat.lt_of_le_of_lt hb.size hs1)))
              clear hb hb2 hb3
              go_wp2
              go_ret
              exact ⟨by rw [HF.out]; rfl, hfin⟩
            · have HF := Lib.hid (HT.out.2 ⟨HK.out, hok, hem, .inr (by omega)⟩)
              have BX := Lib.hid bx
              have HB := Lib.hid hb1
              clear bx hb1
              have hw1 := fun W => isValid_yes x y W hok
              have HW := Lib.hid hw1
              have hw2 := fun W => isEmpty_any x y W
              rw [hem] at hw2
              have HW2 := Lib.hid hw2
              clear hw1 hw2
              go_wp2_with fail
              obtain ⟨W, hW⟩ : ∃ W, wr.alloc (.cells #[.int .i64 x, .int .i64 y] 31) = W := ⟨_, rfl⟩
              rw [hW] at BX HB hsz ⊢
              clear hok hem hp
              have hS0 := BX.out.cells
              have hS1 : W.cell? ⟨b, off + (k - 1) * 2 + 1, none⟩ = some (.int .i64 z) := by rw [← hW]; exact (World.cell?_alloc_lt _ _ _ hbw').trans hpz
              refine wp_region_noPanic ?_
              refine wp_region_held_drew (S := (fun w' => w'.cell? ⟨wr.heap.size, 0, none⟩ = some (.int .i64 x) ∧ w'.cell? ⟨wr.heap.size, 1, none⟩ = some (.int .i64 y) ∧ w'.cell? ⟨b, off + (k - 1) * 2 + 1, none⟩ = some (.int .i64 z))) (by kernel_rfl) ⟨hS0.1, hS0.2, hS1⟩ (fun hR0 => ?_)
              change wpAnyH _ _ _ _ _ 22 #[false, false, false, false, false, false, false, false, false, false, false, false, false, false, false, false, false, false, false, false, false, false] _ _
              clear hS0 hS1 hpz
              refine wpAnyH_take (i := 0) (oi := { dst := some 12, op := Op.load 31 (Operand.tmp 4), type := 31, pos := "span.go:9", after := #[], guard := none }) (v := ?_) rfl (by kernel_rfl) (by kernel_rfl) (by kernel_rfl) (fun _ _ _ h => h) (Or.inl ⟨by rfl, ?_⟩) (by assumption) ?_
              rotate_left 1
              · (intro w hSw; (try dsimp only at hSw); go_simp <;> (with_reducible rfl))
              (first | ((fail_if_success (unfold Act.put)); (try simp only [List.setIfInBounds_toArray, List.set_cons_zero, List.set_cons_succ])) | (try simp only [Act.put, List.setIfInBounds_toArray, List.set_cons_zero, List.set_cons_succ]))
              refine wpAnyH_ready (rs := [1]) (by kernel_rfl) (by simp) ?_
              refine AllReadyH.cons (o := { dst := some 13, op := Op.call { callee := Callee.value (Operand.func 47), args := #[Operand.tmp 12], argTypes := #[31] }, type := 4, pos := "span.go:9", after := #[{ on := 0, ground := Ground.data }], guard := none }) rfl (fun K hK => ?_) AllReadyH.nil
              go_simp
              go_at_call 47; refine (HW.out _).mono ?_; rintro e w1 ⟨rfl, hb2⟩; have hs1 : wr.heap.size < w1.heap.size := Nat.lt_of_lt_of_le hsz hb2.size
              (try go_wp2_with fail)
              refine hK.out _ _ (⟨(hb2.cell (p := ⟨wr.heap.size, 0, none⟩) hsz).trans hR0.1, (hb2.cell (p := ⟨wr.heap.size, 1, none⟩) hsz).trans hR0.2.1, (hb2.cell (p := ⟨b, off + (k - 1) * 2 + 1, none⟩) (Nat.lt_trans hbw' hsz)).trans hR0.2.2⟩) (fun hR1 => ?_)
              clear hK K hR0
              (first | ((fail_if_success (unfold Act.put)); (try simp only [List.setIfInBounds_toArray, List.set_cons_zero, List.set_cons_succ])) | (try simp only [Act.put, List.setIfInBounds_toArray, List.set_cons_zero, List.set_cons_succ]))
              refine wpAnyH_take (i := 2) (oi := { dst := some 14, op := Op.unOp UnOp.not 4 (Operand.tmp 13), type := 4, pos := "span.go:9", after := #[{ on := 1, ground := Ground.data }], guard := none }) (v := ?_) rfl (by kernel_rfl) (by kernel_rfl) (by kernel_rfl) (fun _ _ _ h => h) (Or.inl ⟨by rfl, ?_⟩) (by assumption) ?_
              rotate_left 1
              · (intro w hSw; (try dsimp only at hSw); go_simp <;> (with_reducible rfl))
              (first | ((fail_if_success (unfold Act.put)); (try simp only [List.setIfInBounds_toArray, List.set_cons_zero, List.set_cons_succ])) | (try simp only [Act.put, List.setIfInBounds_toArray, List.set_cons_zero, List.set_cons_succ]))
              refine wpAnyH_take (i := 3) (oi := { dst := some 15, op := Op.move (Operand.tmp 14), type := 4, pos := "span.go:9", after := #[{ on := 2, ground := Ground.data }, { on := 1, ground := Ground.chain }], guard := none }) (v := ?_) rfl (by kernel_rfl) (by kernel_rfl) (by kernel_rfl) (fun _ _ _ h => h) (Or.inl ⟨by rfl, ?_⟩) (by assumption) ?_
              rotate_left 1
              · (intro w hSw; (try dsimp only at hSw); go_simp <;> (with_reducible rfl))
              (first | ((fail_if_success (unfold Act.put)); (try simp only [List.setIfInBounds_toArray, List.set_cons_zero, List.set_cons_succ])) | (try simp only [Act.put, List.setIfInBounds_toArray, List.set_cons_zero, List.set_cons_succ]))
              refine wpAnyH_take (i := 4) (oi := { dst := some 16, op := Op.load 31 (Operand.tmp 4), type := 31, pos := "span.go:9", after := #[{ on := 3, ground := Ground.guard }], guard := some (3, false) }) (v := ?_) rfl (by kernel_rfl) (by kernel_rfl) (by kernel_rfl) (fun _ _ _ h => h) (Or.inl ⟨by rfl, ?_⟩) (by assumption) ?_
              rotate_left 1
              · (intro w hSw; (try dsimp only at hSw); go_simp <;> (with_reducible rfl))
              (first | ((fail_if_success (unfold Act.put)); (try simp only [List.setIfInBounds_toArray, List.set_cons_zero, List.set_cons_succ])) | (try simp only [Act.put, List.setIfInBounds_toArray, List.set_cons_zero, List.set_cons_succ]))
              refine wpAnyH_ready (rs := [5]) (by kernel_rfl) (by simp) ?_
              refine AllReadyH.cons (o := { dst := some 17, op := Op.call { callee := Callee.value (Operand.func 51), args := #[Operand.tmp 16], argTypes := #[31] }, type := 4, pos := "span.go:9", after := #[{ on := 4, ground := Ground.data }, { on := 3, ground := Ground.chain }, { on := 3, ground := Ground.guard }], guard := some (3, false) }) rfl (fun K hK => ?_) AllReadyH.nil
              go_simp
              go_at_call 51; refine (HW2.out _).mono ?_; rintro e w2 ⟨rfl, hb3⟩
              (try go_wp2_with fail)
              refine hK.out _ _ (⟨(hb3.cell (p := ⟨wr.heap.size, 0, none⟩) hs1).trans hR1.1, (hb3.cell (p := ⟨wr.heap.size, 1, none⟩) hs1).trans hR1.2.1, (hb3.cell (p := ⟨b, off + (k - 1) * 2 + 1, none⟩) (Nat.lt_trans hbw' hs1)).trans hR1.2.2⟩) (fun hR2 => ?_)
              clear hK K hR1
              (first | ((fail_if_success (unfold Act.put)); (try simp only [List.setIfInBounds_toArray, List.set_cons_zero, List.set_cons_succ])) | (try simp only [Act.put, List.setIfInBounds_toArray, List.set_cons_zero, List.set_cons_succ]))
              refine wpAnyH_take (i := 6) (oi := { dst := some 18, op := Op.pick (Operand.tmp 15) (Operand.const (Value.bool true)) (Operand.tmp 17), type := 4, pos := "span.go:9", after := #[{ on := 3, ground := Ground.data }, { on := 5, ground := Ground.data }], guard := none }) (v := ?_) rfl (by kernel_rfl) (by kernel_rfl) (by kernel_rfl) (fun _ _ _ h => h) (Or.inl ⟨by rfl, ?_⟩) (by assumption) ?_
              rotate_left 1
              · (intro w hSw; (try dsimp only at hSw); go_simp <;> (with_reducible rfl))
              (first | ((fail_if_success (unfold Act.put)); (try simp only [List.setIfInBounds_toArray, List.set_cons_zero, List.set_cons_succ])) | (try simp only [Act.put, List.setIfInBounds_toArray, List.set_cons_zero, List.set_cons_succ]))
              refine wpAnyH_take (i := 7) (oi := { dst := some 19, op := Op.move (Operand.tmp 18), type := 4, pos := "span.go:9", after := #[{ on := 6, ground := Ground.data }, { on := 5, ground := Ground.chain }], guard := none }) (v := ?_) rfl (by kernel_rfl) (by kernel_rfl) (by kernel_rfl) (fun _ _ _ h => h) (Or.inl ⟨by rfl, ?_⟩) (by assumption) ?_
              rotate_left 1
              · (intro w hSw; (try dsimp only at hSw); go_simp <;> (with_reducible rfl))
              (first | ((fail_if_success (unfold Act.put)); (try simp only [List.setIfInBounds_toArray, List.set_cons_zero, List.set_cons_succ])) | (try simp only [Act.put, List.setIfInBounds_toArray, List.set_cons_zero, List.set_cons_succ]))
              refine wpAnyH_take (i := 8) (oi := { dst := some 20, op := Op.move (Operand.tmp 3), type := 3, pos := "span.go:9", after := #[{ on := 7, ground := Ground.guard }], guard := some (7, false) }) (v := ?_) rfl (by kernel_rfl) (by kernel_rfl) (by kernel_rfl) (fun _ _ _ h => h) (Or.inl ⟨by rfl, ?_⟩) (by assumption) ?_
              rotate_left 1
              · (intro w hSw; (try dsimp only at hSw); go_simp <;> (with_reducible rfl))
              (first | ((fail_if_success (unfold Act.put)); (try simp only [List.setIfInBounds_toArray, List.set_cons_zero, List.set_cons_succ])) | (try simp only [Act.put, List.setIfInBounds_toArray, List.set_cons_zero, List.set_cons_succ]))
              refine wpAnyH_take (i := 9) (oi := { dst := some 21, op := Op.binOp BinOp.gtr 3 (Operand.tmp 20) (Operand.const (Value.int IntKind.i64 0)) 3, type := 4, pos := "span.go:9", after := #[{ on := 8, ground := Ground.data }, { on := 7, ground := Ground.guard }], guard := some (7, false) }) (v := ?_) rfl (by kernel_rfl) (by kernel_rfl) (by kernel_rfl) (fun _ _ _ h => h) (Or.inl ⟨by rfl, ?_⟩) (by assumption) ?_
              rotate_left 1
              · (intro w hSw; (try dsimp only at hSw); go_simp <;> (with_reducible rfl))
              (first | ((fail_if_success (unfold Act.put)); (try simp only [List.setIfInBounds_toArray, List.set_cons_zero, List.set_cons_succ])) | (try simp only [Act.put, List.setIfInBounds_toArray, List.set_cons_zero, List.set_cons_succ]))
              refine wpAnyH_take (i := 10) (oi := { dst := some 22, op := Op.move (Operand.tmp 21), type := 4, pos := "span.go:9", after := #[{ on := 9, ground := Ground.data }, { on := 7, ground := Ground.chain }, { on := 7, ground := Ground.guard }], guard := some (7, false) }) (v := ?_) rfl (by kernel_rfl) (by kernel_rfl) (by kernel_rfl) (fun _ _ _ h => h) (Or.inl ⟨by rfl, ?_⟩) (by assumption) ?_
              rotate_left 1
              · (intro w hSw; (try dsimp only at hSw); go_simp <;> (with_reducible rfl))
              (first | ((fail_if_success (unfold Act.put)); (try simp only [List.setIfInBounds_toArray, List.set_cons_zero, List.set_cons_succ])) | (try simp only [Act.put, List.setIfInBounds_toArray, List.set_cons_zero, List.set_cons_succ]))
              refine wpAnyH_take (i := 11) (oi := { dst := some 23, op := Op.fieldAddr 31 (Operand.tmp 4) 0, type := 0, pos := "span.go:9", after := #[{ on := 10, ground := Ground.guard }], guard := some (10, true) }) (v := ?_) rfl (by kernel_rfl) (by kernel_rfl) (by kernel_rfl) (fun _ _ _ h => h) (Or.inl ⟨by rfl, ?_⟩) (by assumption) ?_
              rotate_left 1
              · (intro w hSw; (try dsimp only at hSw); go_simp <;> (with_reducible rfl))
              (first | ((fail_if_success (unfold Act.put)); (try simp only [List.setIfInBounds_toArray, List.set_cons_zero, List.set_cons_succ])) | (try simp only [Act.put, List.setIfInBounds_toArray, List.set_cons_zero, List.set_cons_succ]))
              refine wpAnyH_take (i := 12) (oi := { dst := some 24, op := Op.load 3 (Operand.tmp 23), type := 3, pos := "span.go:9", after := #[{ on := 11, ground := Ground.data }, { on := 10, ground := Ground.guard }], guard := some (10, true) }) (v := ?_) rfl (by kernel_rfl) (by kernel_rfl) (by kernel_rfl) (fun _ _ _ h => h) (Or.inl ⟨by rfl, ?_⟩) (by assumption) ?_
              rotate_left 1
              · (intro w hSw; (try dsimp only at hSw); go_simp <;> (with_reducible rfl))
              (first | ((fail_if_success (unfold Act.put)); (try simp only [List.setIfInBounds_toArray, List.set_cons_zero, List.set_cons_succ])) | (try simp only [Act.put, List.setIfInBounds_toArray, List.set_cons_zero, List.set_cons_succ]))
              refine wpAnyH_take (i := 13) (oi := { dst := some 25, op := Op.move (Operand.tmp 0), type := 22, pos := "span.go:9", after := #[{ on := 10, ground := Ground.guard }], guard := some (10, true) }) (v := ?_) rfl (by kernel_rfl) (by kernel_rfl) (by kernel_rfl) (fun _ _ _ h => h) (Or.inl ⟨by rfl, ?_⟩) (by assumption) ?_
              rotate_left 1
              · (intro w hSw; (try dsimp only at hSw); go_simp <;> (with_reducible rfl))
              (first | ((fail_if_success (unfold Act.put)); (try simp only [List.setIfInBounds_toArray, List.set_cons_zero, List.set_cons_succ])) | (try simp only [Act.put, List.setIfInBounds_toArray, List.set_cons_zero, List.set_cons_succ]))
              refine wpAnyH_take (i := 14) (oi := { dst := some 26, op := Op.move (Operand.tmp 3), type := 3, pos := "span.go:9", after := #[{ on := 10, ground := Ground.guard }], guard := some (10, true) }) (v := ?_) rfl (by kernel_rfl) (by kernel_rfl) (by kernel_rfl) (fun _ _ _ h => h) (Or.inl ⟨by rfl, ?_⟩) (by assumption) ?_
              rotate_left 1
              · (intro w hSw; (try dsimp only at hSw); go_simp <;> (with_reducible rfl))
              (first | ((fail_if_success (unfold Act.put)); (try simp only [List.setIfInBounds_toArray, List.set_cons_zero, List.set_cons_succ])) | (try simp only [Act.put, List.setIfInBounds_toArray, List.set_cons_zero, List.set_cons_succ]))
              refine wpAnyH_take (i := 15) (oi := { dst := some 27, op := Op.binOp BinOp.sub 3 (Operand.tmp 26) (Operand.const (Value.int IntKind.i64 1)) 3, type := 3, pos := "span.go:9", after := #[{ on := 14, ground := Ground.data }, { on := 10, ground := Ground.guard }], guard := some (10, true) }) (v := ?_) rfl (by kernel_rfl) (by kernel_rfl) (by kernel_rfl) (fun _ _ _ h => h) (Or.inl ⟨by rfl, ?_⟩) (by assumption) ?_
              rotate_left 1
              · (intro w hSw; (try dsimp only at hSw); go_simp <;> (with_reducible rfl))
              (first | ((fail_if_success (unfold Act.put)); (try simp only [List.setIfInBounds_toArray, List.set_cons_zero, List.set_cons_succ])) | (try simp only [Act.put, List.setIfInBounds_toArray, List.set_cons_zero, List.set_cons_succ]))
              refine wpAnyH_take (i := 16) (oi := { dst := some 28, op := Op.indexAddr 22 (Operand.tmp 25) (Operand.tmp 27), type := 0, pos := "span.go:9", after := #[{ on := 13, ground := Ground.data }, { on := 15, ground := Ground.data }, { on := 10, ground := Ground.guard }], guard := some (10, true) }) (v := ?_) rfl (by kernel_rfl) (by kernel_rfl) (by kernel_rfl) (fun _ _ _ h => h) (Or.inl ⟨by rfl, ?_⟩) (by assumption) ?_
              rotate_left 1
              · (intro w hSw; (try dsimp only at hSw); go_simp <;> (with_reducible rfl))
              (first | ((fail_if_success (unfold Act.put)); (try simp only [List.setIfInBounds_toArray, List.set_cons_zero, List.set_cons_succ])) | (try simp only [Act.put, List.setIfInBounds_toArray, List.set_cons_zero, List.set_cons_succ]))
              refine wpAnyH_take (i := 17) (oi := { dst := some 29, op := Op.fieldAddr 31 (Operand.tmp 28) 1, type := 0, pos := "span.go:9", after := #[{ on := 16, ground := Ground.data }, { on := 10, ground := Ground.guard }], guard := some (10, true) }) (v := ?_) rfl (by kernel_rfl) (by kernel_rfl) (by kernel_rfl) (fun _ _ _ h => h) (Or.inl ⟨by rfl, ?_⟩) (by assumption) ?_
              rotate_left 1
              · (intro w hSw; (try dsimp only at hSw); go_simp <;> (with_reducible rfl))
              (first | ((fail_if_success (unfold Act.put)); (try simp only [List.setIfInBounds_toArray, List.set_cons_zero, List.set_cons_succ])) | (try simp only [Act.put, List.setIfInBounds_toArray, List.set_cons_zero, List.set_cons_succ]))
              refine wpAnyH_take (i := 18) (oi := { dst := some 30, op := Op.load 3 (Operand.tmp 29), type := 3, pos := "span.go:9", after := #[{ on := 17, ground := Ground.data }, { on := 10, ground := Ground.guard }], guard := some (10, true) }) (v := ?_) rfl (by kernel_rfl) (by kernel_rfl) (by kernel_rfl) (fun _ _ _ h => h) (Or.inl ⟨by rfl, ?_⟩) (by assumption) ?_
              rotate_left 1
              · (intro w hSw; (try dsimp only at hSw); go_simp <;> (with_reducible rfl))
              (first | ((fail_if_success (unfold Act.put)); (try simp only [List.setIfInBounds_toArray, List.set_cons_zero, List.set_cons_succ])) | (try simp only [Act.put, List.setIfInBounds_toArray, List.set_cons_zero, List.set_cons_succ]))
              refine wpAnyH_take (i := 19) (oi := { dst := some 31, op := Op.binOp BinOp.leq 3 (Operand.tmp 24) (Operand.tmp 30) 3, type := 4, pos := "span.go:9", after := #[{ on := 12, ground := Ground.data }, { on := 18, ground := Ground.data }, { on := 10, ground := Ground.guard }], guard := some (10, true) }) (v := ?_) rfl (by kernel_rfl) (by kernel_rfl) (by kernel_rfl) (fun _ _ _ h => h) (Or.inl ⟨by rfl, ?_⟩) (by assumption) ?_
              rotate_left 1
              · (intro w hSw; (try dsimp only at hSw); go_simp <;> (with_reducible rfl))
              (first | ((fail_if_success (unfold Act.put)); (try simp only [List.setIfInBounds_toArray, List.set_cons_zero, List.set_cons_succ])) | (try simp only [Act.put, List.setIfInBounds_toArray, List.set_cons_zero, List.set_cons_succ]))
              refine wpAnyH_take (i := 20) (oi := { dst := some 32, op := Op.pick (Operand.tmp 22) (Operand.tmp 31) (Operand.const (Value.bool false)), type := 4, pos := "span.go:9", after := #[{ on := 10, ground := Ground.data }, { on := 19, ground := Ground.data }, { on := 7, ground := Ground.guard }], guard := some (7, false) }) (v := ?_) rfl (by kernel_rfl) (by kernel_rfl) (by kernel_rfl) (fun _ _ _ h => h) (Or.inl ⟨by rfl, ?_⟩) (by assumption) ?_
              rotate_left 1
              · (intro w hSw; (try dsimp only at hSw); go_simp <;> (with_reducible rfl))
              (first | ((fail_if_success (unfold Act.put)); (try simp only [List.setIfInBounds_toArray, List.set_cons_zero, List.set_cons_succ])) | (try simp only [Act.put, List.setIfInBounds_toArray, List.set_cons_zero, List.set_cons_succ]))
              refine wpAnyH_take (i := 21) (oi := { dst := some 33, op := Op.pick (Operand.tmp 19) (Operand.const (Value.bool true)) (Operand.tmp 32), type := 4, pos := "span.go:9", after := #[{ on := 7, ground := Ground.data }, { on := 20, ground := Ground.data }], guard := none }) (v := ?_) rfl (by kernel_rfl) (by kernel_rfl) (by kernel_rfl) (fun _ _ _ h => h) (Or.inl ⟨by rfl, ?_⟩) (by assumption) ?_
              rotate_left 1
              · (intro w hSw; (try dsimp only at hSw); go_simp <;> (with_reducible rfl))
              (first | ((fail_if_success (unfold Act.put)); (try simp only [List.setIfInBounds_toArray, List.set_cons_zero, List.set_cons_succ])) | (try simp only [Act.put, List.setIfInBounds_toArray, List.set_cons_zero, List.set_cons_succ]))
              refine wpAnyH_done (by kernel_rfl) ?_ _
              refine NoPanic.normal ?_
              clear hR2
              have hfin := (HB.out.trans (((Below.refl _ _).drew).trans (hb2.mono (Nat.le_of_lt (Nat.lt_of_le_of_lt hb.size hsz))))).trans (hb3.mono (Nat.le_of_lt (Nat.lt_of_le_of_lt hb.size hs1)))
              clear hb hb2 hb3 q1 q2 q3 q4 q5
              go_wp2
              go_roundw
              case rel => exact ⟨k + 1, by omega, by go_num, hfin, HF⟩
              case measure => simp [intOf]; omega
          · have HF := Lib.hid (HT.out.2 ⟨HK.out, hok, hem, .inl (by omega)⟩)
            have q1 : decide (0 < k) = false := by simpa using h0
            have q2 : decide ((0 : Int) < (k : Int)) = false := by simp; omega
            have BX := Lib.hid bx
            have HB := Lib.hid hb1
            clear bx hb1
            have hw1 := fun W => isValid_yes x y W hok
            have HW := Lib.hid hw1
            have hw2 := fun W => isEmpty_any x y W
            rw [hem] at hw2
            have HW2 := Lib.hid hw2
            clear hw1 hw2
            go_wp2_with fail
            obtain ⟨W, hW⟩ : ∃ W, wr.alloc (.cells #[.int .i64 x, .int .i64 y] 31) = W := ⟨_, rfl⟩
            rw [hW] at BX HB hsz ⊢
            clear hW
            clear hok hem hp
            have hS0 := BX.out.cells
            refine wp_region_noPanic ?_
            refine wp_region_held_drew (S := (fun w' => w'.cell? ⟨wr.heap.size, 0, none⟩ = some (.int .i64 x) ∧ w'.cell? ⟨wr.heap.size, 1, none⟩ = some (.int .i64 y))) (by kernel_rfl) hS0 (fun hR0 => ?_)
            change wpAnyH _ _ _ _ _ 22 #[false, false, false, false, false, false, false, false, false, false, false, false, false, false, false, false, false, false, false, false, false, false] _ _
            clear hS0
            refine wpAnyH_take (i := 0) (oi := { dst := some 12, op := Op.load 31 (Operand.tmp 4), type := 31, pos := "span.go:9", after := #[], guard := none }) (v := ?_) rfl (by kernel_rfl) (by kernel_rfl) (by kernel_rfl) (fun _ _ _ h => h) (Or.inl ⟨by rfl, ?_⟩) (by assumption) ?_
            rotate_left 1
            · (intro w hSw; (try dsimp only at hSw); go_simp <;> (with_reducible rfl))
            (first | ((fail_if_success (unfold Act.put)); (try simp only [List.setIfInBounds_toArray, List.set_cons_zero, List.set_cons_succ])) | (try simp only [Act.put, List.setIfInBounds_toArray, List.set_cons_zero, List.set_cons_succ]))
            refine wpAnyH_ready (rs := [1]) (by kernel_rfl) (by simp) ?_
            refine AllReadyH.cons (o := { dst := some 13, op := Op.call { callee := Callee.value (Operand.func 47), args := #[Operand.tmp 12], argTypes := #[31] }, type := 4, pos := "span.go:9", after := #[{ on := 0, ground := Ground.data }], guard := none }) rfl (fun K hK => ?_) AllReadyH.nil
            go_simp
            go_at_call 47; refine (HW.out _).mono ?_; rintro e w1 ⟨rfl, hb2⟩; have hs1 : wr.heap.size < w1.heap.size := Nat.lt_of_lt_of_le hsz hb2.size
            (try go_wp2_with fail)
            refine hK.out _ _ (⟨(hb2.cell (p := ⟨wr.heap.size, 0, none⟩) hsz).trans hR0.1, (hb2.cell (p := ⟨wr.heap.size, 1, none⟩) hsz).trans hR0.2⟩) (fun hR1 => ?_)
            clear hK K hR0
            (first | ((fail_if_success (unfold Act.put)); (try simp only [List.setIfInBounds_toArray, List.set_cons_zero, List.set_cons_succ])) | (try simp only [Act.put, List.setIfInBounds_toArray, List.set_cons_zero, List.set_cons_succ]))
            refine wpAnyH_take (i := 2) (oi := { dst := some 14, op := Op.unOp UnOp.not 4 (Operand.tmp 13), type := 4, pos := "span.go:9", after := #[{ on := 1, ground := Ground.data }], guard := none }) (v := ?_) rfl (by kernel_rfl) (by kernel_rfl) (by kernel_rfl) (fun _ _ _ h => h) (Or.inl ⟨by rfl, ?_⟩) (by assumption) ?_
            rotate_left 1
            · (intro w hSw; (try dsimp only at hSw); go_simp <;> (with_reducible rfl))
            (first | ((fail_if_success (unfold Act.put)); (try simp only [List.setIfInBounds_toArray, List.set_cons_zero, List.set_cons_succ])) | (try simp only [Act.put, List.setIfInBounds_toArray, List.set_cons_zero, List.set_cons_succ]))
            refine wpAnyH_take (i := 3) (oi := { dst := some 15, op := Op.move (Operand.tmp 14), type := 4, pos := "span.go:9", after := #[{ on := 2, ground := Ground.data }, { on := 1, ground := Ground.chain }], guard := none }) (v := ?_) rfl (by kernel_rfl) (by kernel_rfl) (by kernel_rfl) (fun _ _ _ h => h) (Or.inl ⟨by rfl, ?_⟩) (by assumption) ?_
            rotate_left 1
            · (intro w hSw; (try dsimp only at hSw); go_simp <;> (with_reducible rfl))
            (first | ((fail_if_success (unfold Act.put)); (try simp only [List.setIfInBounds_toArray, List.set_cons_zero, List.set_cons_succ])) | (try simp only [Act.put, List.setIfInBounds_toArray, List.set_cons_zero, List.set_cons_succ]))
            refine wpAnyH_take (i := 4) (oi := { dst := some 16, op := Op.load 31 (Operand.tmp 4), type := 31, pos := "span.go:9", after := #[{ on := 3, ground := Ground.guard }], guard := some (3, false) }) (v := ?_) rfl (by kernel_rfl) (by kernel_rfl) (by kernel_rfl) (fun _ _ _ h => h) (Or.inl ⟨by rfl, ?_⟩) (by assumption) ?_
            rotate_left 1
            · (intro w hSw; (try dsimp only at hSw); go_simp <;> (with_reducible rfl))
            (first | ((fail_if_success (unfold Act.put)); (try simp only [List.setIfInBounds_toArray, List.set_cons_zero, List.set_cons_succ])) | (try simp only [Act.put, List.setIfInBounds_toArray, List.set_cons_zero, List.set_cons_succ]))
            refine wpAnyH_ready (rs := [5]) (by kernel_rfl) (by simp) ?_
            refine AllReadyH.cons (o := { dst := some 17, op := Op.call { callee := Callee.value (Operand.func 51), args := #[Operand.tmp 16], argTypes := #[31] }, type := 4, pos := "span.go:9", after := #[{ on := 4, ground := Ground.data }, { on := 3, ground := Ground.chain }, { on := 3, ground := Ground.guard }], guard := some (3, false) }) rfl (fun K hK => ?_) AllReadyH.nil
            go_simp
            go_at_call 51; refine (HW2.out _).mono ?_; rintro e w2 ⟨rfl, hb3⟩
            (try go_wp2_with fail)
            refine hK.out _ _ (⟨(hb3.cell (p := ⟨wr.heap.size, 0, none⟩) hs1).trans hR1.1, (hb3.cell (p := ⟨wr.heap.size, 1, none⟩) hs1).trans hR1.2⟩) (fun hR2 => ?_)
            clear hK K hR1
            (first | ((fail_if_success (unfold Act.put)); (try simp only [List.setIfInBounds_toArray, List.set_cons_zero, List.set_cons_succ])) | (try simp only [Act.put, List.setIfInBounds_toArray, List.set_cons_zero, List.set_cons_succ]))
            refine wpAnyH_take (i := 6) (oi := { dst := some 18, op := Op.pick (Operand.tmp 15) (Operand.const (Value.bool true)) (Operand.tmp 17), type := 4, pos := "span.go:9", after := #[{ on := 3, ground := Ground.data }, { on := 5, ground := Ground.data }], guard := none }) (v := ?_) rfl (by kernel_rfl) (by kernel_rfl) (by kernel_rfl) (fun _ _ _ h => h) (Or.inl ⟨by rfl, ?_⟩) (by assumption) ?_
            rotate_left 1
            · (intro w hSw; (try dsimp only at hSw); go_simp <;> (with_reducible rfl))
            (first | ((fail_if_success (unfold Act.put)); (try simp only [List.setIfInBounds_toArray, List.set_cons_zero, List.set_cons_succ])) | (try simp only [Act.put, List.setIfInBounds_toArray, List.set_cons_zero, List.set_cons_succ]))
            refine wpAnyH_take (i := 7) (oi := { dst := some 19, op := Op.move (Operand.tmp 18), type := 4, pos := "span.go:9", after := #[{ on := 6, ground := Ground.data }, { on := 5, ground := Ground.chain }], guard := none }) (v := ?_) rfl (by kernel_rfl) (by kernel_rfl) (by kernel_rfl) (fun _ _ _ h => h) (Or.inl ⟨by rfl, ?_⟩) (by assumption) ?_
            rotate_left 1
            · (intro w hSw; (try dsimp only at hSw); go_simp <;> (with_reducible rfl))
            (first | ((fail_if_success (unfold Act.put)); (try simp only [List.setIfInBounds_toArray, List.set_cons_zero, List.set_cons_succ])) | (try simp only [Act.put, List.setIfInBounds_toArray, List.set_cons_zero, List.set_cons_succ]))
            refine wpAnyH_take (i := 8) (oi := { dst := some 20, op := Op.move (Operand.tmp 3), type := 3, pos := "span.go:9", after := #[{ on := 7, ground := Ground.guard }], guard := some (7, false) }) (v := ?_) rfl (by kernel_rfl) (by kernel_rfl) (by kernel_rfl) (fun _ _ _ h => h) (Or.inl ⟨by rfl, ?_⟩) (by assumption) ?_
            rotate_left 1
            · (intro w hSw; (try dsimp only at hSw); go_simp <;> (with_reducible rfl))
            (first | ((fail_if_success (unfold Act.put)); (try simp only [List.setIfInBounds_toArray, List.set_cons_zero, List.set_cons_succ])) | (try simp only [Act.put, List.setIfInBounds_toArray, List.set_cons_zero, List.set_cons_succ]))
            refine wpAnyH_take (i := 9) (oi := { dst := some 21, op := Op.binOp BinOp.gtr 3 (Operand.tmp 20) (Operand.const (Value.int IntKind.i64 0)) 3, type := 4, pos := "span.go:9", after := #[{ on := 8, ground := Ground.data }, { on := 7, ground := Ground.guard }], guard := some (7, false) }) (v := ?_) rfl (by kernel_rfl) (by kernel_rfl) (by kernel_rfl) (fun _ _ _ h => h) (Or.inl ⟨by rfl, ?_⟩) (by assumption) ?_
            rotate_left 1
            · (intro w hSw; (try dsimp only at hSw); go_simp <;> (with_reducible rfl))
            (first | ((fail_if_success (unfold Act.put)); (try simp only [List.setIfInBounds_toArray, List.set_cons_zero, List.set_cons_succ])) | (try simp only [Act.put, List.setIfInBounds_toArray, List.set_cons_zero, List.set_cons_succ]))
            refine wpAnyH_take (i := 10) (oi := { dst := some 22, op := Op.move (Operand.tmp 21), type := 4, pos := "span.go:9", after := #[{ on := 9, ground := Ground.data }, { on := 7, ground := Ground.chain }, { on := 7, ground := Ground.guard }], guard := some (7, false) }) (v := ?_) rfl (by kernel_rfl) (by kernel_rfl) (by kernel_rfl) (fun _ _ _ h => h) (Or.inl ⟨by rfl, ?_⟩) (by assumption) ?_
            rotate_left 1
            · (intro w hSw; (try dsimp only at hSw); go_simp <;> (with_reducible rfl))
            (first | ((fail_if_success (unfold Act.put)); (try simp only [List.setIfInBounds_toArray, List.set_cons_zero, List.set_cons_succ])) | (try simp only [Act.put, List.setIfInBounds_toArray, List.set_cons_zero, List.set_cons_succ]))
            refine wpAnyH_take (i := 11) (oi := { dst := some 23, op := Op.fieldAddr 31 (Operand.tmp 4) 0, type := 0, pos := "span.go:9", after := #[{ on := 10, ground := Ground.guard }], guard := some (10, true) }) (v := undef) rfl (by kernel_rfl) (by kernel_rfl) (by kernel_rfl) (fun _ _ _ h => h) (Or.inr ⟨by rfl, rfl⟩) (by assumption) ?_
            (first | ((fail_if_success (unfold Act.put)); (try simp only [List.setIfInBounds_toArray, List.set_cons_zero, List.set_cons_succ])) | (try simp only [Act.put, List.setIfInBounds_toArray, List.set_cons_zero, List.set_cons_succ]))
            refine wpAnyH_take (i := 12) (oi := { dst := some 24, op := Op.load 3 (Operand.tmp 23), type := 3, pos := "span.go:9", after := #[{ on := 11, ground := Ground.data }, { on := 10, ground := Ground.guard }], guard := some (10, true) }) (v := undef) rfl (by kernel_rfl) (by kernel_rfl) (by kernel_rfl) (fun _ _ _ h => h) (Or.inr ⟨by rfl, rfl⟩) (by assumption) ?_
            (first | ((fail_if_success (unfold Act.put)); (try simp only [List.setIfInBounds_toArray, List.set_cons_zero, List.set_cons_succ])) | (try simp only [Act.put, List.setIfInBounds_toArray, List.set_cons_zero, List.set_cons_succ]))
            refine wpAnyH_take (i := 13) (oi := { dst := some 25, op := Op.move (Operand.tmp 0), type := 22, pos := "span.go:9", after := #[{ on := 10, ground := Ground.guard }], guard := some (10, true) }) (v := undef) rfl (by kernel_rfl) (by kernel_rfl) (by kernel_rfl) (fun _ _ _ h => h) (Or.inr ⟨by rfl, rfl⟩) (by assumption) ?_
            (first | ((fail_if_success (unfold Act.put)); (try simp only [List.setIfInBounds_toArray, List.set_cons_zero, List.set_cons_succ])) | (try simp only [Act.put, List.setIfInBounds_toArray, List.set_cons_zero, List.set_cons_succ]))
            refine wpAnyH_take (i := 14) (oi := { dst := some 26, op := Op.move (Operand.tmp 3), type := 3, pos := "span.go:9", after := #[{ on := 10, ground := Ground.guard }], guard := some (10, true) }) (v := undef) rfl (by kernel_rfl) (by kernel_rfl) (by kernel_rfl) (fun _ _ _ h => h) (Or.inr ⟨by rfl, rfl⟩) (by assumption) ?_
            (first | ((fail_if_success (unfold Act.put)); (try simp only [List.setIfInBounds_toArray, List.set_cons_zero, List.set_cons_succ])) | (try simp only [Act.put, List.setIfInBounds_toArray, List.set_cons_zero, List.set_cons_succ]))
            refine wpAnyH_take (i := 15) (oi := { dst := some 27, op := Op.binOp BinOp.sub 3 (Operand.tmp 26) (Operand.const (Value.int IntKind.i64 1)) 3, type := 3, pos := "span.go:9", after := #[{ on := 14, ground := Ground.data }, { on := 10, ground := Ground.guard }], guard := some (10, true) }) (v := undef) rfl (by kernel_rfl) (by kernel_rfl) (by kernel_rfl) (fun _ _ _ h => h) (Or.inr ⟨by rfl, rfl⟩) (by assumption) ?_
            (first | ((fail_if_success (unfold Act.put)); (try simp only [List.setIfInBounds_toArray, List.set_cons_zero, List.set_cons_succ])) | (try simp only [Act.put, List.setIfInBounds_toArray, List.set_cons_zero, List.set_cons_succ]))
            refine wpAnyH_take (i := 16) (oi := { dst := some 28, op := Op.indexAddr 22 (Operand.tmp 25) (Operand.tmp 27), type := 0, pos := "span.go:9", after := #[{ on := 13, ground := Ground.data }, { on := 15, ground := Ground.data }, { on := 10, ground := Ground.guard }], guard := some (10, true) }) (v := undef) rfl (by kernel_rfl) (by kernel_rfl) (by kernel_rfl) (fun _ _ _ h => h) (Or.inr ⟨by rfl, rfl⟩) (by assumption) ?_
            (first | ((fail_if_success (unfold Act.put)); (try simp only [List.setIfInBounds_toArray, List.set_cons_zero, List.set_cons_succ])) | (try simp only [Act.put, List.setIfInBounds_toArray, List.set_cons_zero, List.set_cons_succ]))
            refine wpAnyH_take (i := 17) (oi := { dst := some 29, op := Op.fieldAddr 31 (Operand.tmp 28) 1, type := 0, pos := "span.go:9", after := #[{ on := 16, ground := Ground.data }, { on := 10, ground := Ground.guard }], guard := some (10, true) }) (v := undef) rfl (by kernel_rfl) (by kernel_rfl) (by kernel_rfl) (fun _ _ _ h => h) (Or.inr ⟨by rfl, rfl⟩) (by assumption) ?_
            (first | ((fail_if_success (unfold Act.put)); (try simp only [List.setIfInBounds_toArray, List.set_cons_zero, List.set_cons_succ])) | (try simp only [Act.put, List.setIfInBounds_toArray, List.set_cons_zero, List.set_cons_succ]))
            refine wpAnyH_take (i := 18) (oi := { dst := some 30, op := Op.load 3 (Operand.tmp 29), type := 3, pos := "span.go:9", after := #[{ on := 17, ground := Ground.data }, { on := 10, ground := Ground.guard }], guard := some (10, true) }) (v := undef) rfl (by kernel_rfl) (by kernel_rfl) (by kernel_rfl) (fun _ _ _ h => h) (Or.inr ⟨by rfl, rfl⟩) (by assumption) ?_
            (first | ((fail_if_success (unfold Act.put)); (try simp only [List.setIfInBounds_toArray, List.set_cons_zero, List.set_cons_succ])) | (try simp only [Act.put, List.setIfInBounds_toArray, List.set_cons_zero, List.set_cons_succ]))
            refine wpAnyH_take (i := 19) (oi := { dst := some 31, op := Op.binOp BinOp.leq 3 (Operand.tmp 24) (Operand.tmp 30) 3, type := 4, pos := "span.go:9", after := #[{ on := 12, ground := Ground.data }, { on := 18, ground := Ground.data }, { on := 10, ground := Ground.guard }], guard := some (10, true) }) (v := undef) rfl (by kernel_rfl) (by kernel_rfl) (by kernel_rfl) (fun _ _ _ h => h) (Or.inr ⟨by rfl, rfl⟩) (by assumption) ?_
            (first | ((fail_if_success (unfold Act.put)); (try simp only [List.setIfInBounds_toArray, List.set_cons_zero, List.set_cons_succ])) | (try simp only [Act.put, List.setIfInBounds_toArray, List.set_cons_zero, List.set_cons_succ]))
            refine wpAnyH_take (i := 20) (oi := { dst := some 32, op := Op.pick (Operand.tmp 22) (Operand.tmp 31) (Operand.const (Value.bool false)), type := 4, pos := "span.go:9", after := #[{ on := 10, ground := Ground.data }, { on := 19, ground := Ground.data }, { on := 7, ground := Ground.guard }], guard := some (7, false) }) (v := ?_) rfl (by kernel_rfl) (by kernel_rfl) (by kernel_rfl) (fun _ _ _ h => h) (Or.inl ⟨by rfl, ?_⟩) (by assumption) ?_
            rotate_left 1
            · (intro w hSw; (try dsimp only at hSw); go_simp <;> (with_reducible rfl))
            (first | ((fail_if_success (unfold Act.put)); (try simp only [List.setIfInBounds_toArray, List.set_cons_zero, List.set_cons_succ])) | (try simp only [Act.put, List.setIfInBounds_toArray, List.set_cons_zero, List.set_cons_succ]))
            refine wpAnyH_take (i := 21) (oi := { dst := some 33, op := Op.pick (Operand.tmp 19) (Operand.const (Value.bool true)) (Operand.tmp 32), type := 4, pos := "span.go:9", after := #[{ on := 7, ground := Ground.data }, { on := 20, ground := Ground.data }], guard := none }) (v := ?_) rfl (by kernel_rfl) (by kernel_rfl) (by kernel_rfl) (fun _ _ _ h => h) (Or.inl ⟨by rfl, ?_⟩) (by assumption) ?_
            rotate_left 1
            · (intro w hSw; (try dsimp only at hSw); go_simp <;> (with_reducible rfl))
            (first | ((fail_if_success (unfold Act.put)); (try simp only [List.setIfInBounds_toArray, List.set_cons_zero, List.set_cons_succ])) | (try simp only [Act.put, List.setIfInBounds_toArray, List.set_cons_zero, List.set_cons_succ]))
            refine wpAnyH_done (by kernel_rfl) ?_ _
            refine NoPanic.normal ?_
            clear hR2
            have hfin := (HB.out.trans (((Below.refl _ _).drew).trans (hb2.mono (Nat.le_of_lt (Nat.lt_of_le_of_lt hb.size hsz))))).trans (hb3.mono (Nat.le_of_lt (Nat.lt_of_le_of_lt hb.size hs1)))
            clear hb hb2 hb3 q1 q2
            go_wp2
            go_roundw
            case rel => exact ⟨k + 1, by omega, by go_num, hfin, HF⟩
            case measure => simp [intOf]; omega
      · have HOK := Lib.hid hok
        have HF := Lib.hid (HN.out (fun e => by rw [hok] at e; exact absurd e.1 (by decide)))
        clear hok hp
        have BX := Lib.hid bx
        have HB := Lib.hid hb1
        clear bx hb1
        have hw1 := fun W => isValid_no x y W HOK.out
        have HW := Lib.hid hw1
        clear hw1
        go_wp2_with fail
        obtain ⟨W, hW⟩ : ∃ W, wr.alloc (.cells #[.int .i64 x, .int .i64 y] 31) = W := ⟨_, rfl⟩
        rw [hW] at BX HB hsz ⊢
        clear hW
        have hS0 := BX.out.cells
        refine wp_region_noPanic ?_
        refine wp_region_held_drew (S := (fun w' => w'.cell? ⟨wr.heap.size, 0, none⟩ = some (.int .i64 x) ∧ w'.cell? ⟨wr.heap.size, 1, none⟩ = some (.int .i64 y))) (by kernel_rfl) hS0 (fun hR0 => ?_)
        change wpAnyH _ _ _ _ _ 22 #[false, false, false, false, false, false, false, false, false, false, false, false, false, false, false, false, false, false, false, false, false, false] _ _
        clear hS0
        refine wpAnyH_take (i := 0) (oi := { dst := some 12, op := Op.load 31 (Operand.tmp 4), type := 31, pos := "span.go:9", after := #[], guard := none }) (v := ?_) rfl (by kernel_rfl) (by kernel_rfl) (by kernel_rfl) (fun _ _ _ h => h) (Or.inl ⟨by rfl, ?_⟩) (by assumption) ?_
        rotate_left 1
        · (intro w hSw; (try dsimp only at hSw); go_simp <;> (with_reducible rfl))
        (first | ((fail_if_success (unfold Act.put)); (try simp only [List.setIfInBounds_toArray, List.set_cons_zero, List.set_cons_succ])) | (try simp only [Act.put, List.setIfInBounds_toArray, List.set_cons_zero, List.set_cons_succ]))
        refine wpAnyH_ready (rs := [1]) (by kernel_rfl) (by simp) ?_
        refine AllReadyH.cons (o := { dst := some 13, op := Op.call { callee := Callee.value (Operand.func 47), args := #[Operand.tmp 12], argTypes := #[31] }, type := 4, pos := "span.go:9", after := #[{ on := 0, ground := Ground.data }], guard := none }) rfl (fun K hK => ?_) AllReadyH.nil
        go_simp
        go_at_call 47; refine (HW.out _).mono ?_; rintro e w1 ⟨rfl, hb2⟩
        (try go_wp2_with fail)
        refine hK.out _ _ (⟨(hb2.cell (p := ⟨wr.heap.size, 0, none⟩) hsz).trans hR0.1, (hb2.cell (p := ⟨wr.heap.size, 1, none⟩) hsz).trans hR0.2⟩) (fun hR1 => ?_)
        clear hK K hR0
        (first | ((fail_if_success (unfold Act.put)); (try simp only [List.setIfInBounds_toArray, List.set_cons_zero, List.set_cons_succ])) | (try simp only [Act.put, List.setIfInBounds_toArray, List.set_cons_zero, List.set_cons_succ]))
        refine wpAnyH_take (i := 2) (oi := { dst := some 14, op := Op.unOp UnOp.not 4 (Operand.tmp 13), type := 4, pos := "span.go:9", after := #[{ on := 1, ground := Ground.data }], guard := none }) (v := ?_) rfl (by kernel_rfl) (by kernel_rfl) (by kernel_rfl) (fun _ _ _ h => h) (Or.inl ⟨by rfl, ?_⟩) (by assumption) ?_
        rotate_left 1
        · (intro w hSw; (try dsimp only at hSw); go_simp <;> (with_reducible rfl))
        (first | ((fail_if_success (unfold Act.put)); (try simp only [List.setIfInBounds_toArray, List.set_cons_zero, List.set_cons_succ])) | (try simp only [Act.put, List.setIfInBounds_toArray, List.set_cons_zero, List.set_cons_succ]))
        refine wpAnyH_take (i := 3) (oi := { dst := some 15, op := Op.move (Operand.tmp 14), type := 4, pos := "span.go:9", after := #[{ on := 2, ground := Ground.data }, { on := 1, ground := Ground.chain }], guard := none }) (v := ?_) rfl (by kernel_rfl) (by kernel_rfl) (by kernel_rfl) (fun _ _ _ h => h) (Or.inl ⟨by rfl, ?_⟩) (by assumption) ?_
        rotate_left 1
        · (intro w hSw; (try dsimp only at hSw); go_simp <;> (with_reducible rfl))
        (first | ((fail_if_success (unfold Act.put)); (try simp only [List.setIfInBounds_toArray, List.set_cons_zero, List.set_cons_succ])) | (try simp only [Act.put, List.setIfInBounds_toArray, List.set_cons_zero, List.set_cons_succ]))
        refine wpAnyH_take (i := 4) (oi := { dst := some 16, op := Op.load 31 (Operand.tmp 4), type := 31, pos := "span.go:9", after := #[{ on := 3, ground := Ground.guard }], guard := some (3, false) }) (v := undef) rfl (by kernel_rfl) (by kernel_rfl) (by kernel_rfl) (fun _ _ _ h => h) (Or.inr ⟨by rfl, rfl⟩) (by assumption) ?_
        (first | ((fail_if_success (unfold Act.put)); (try simp only [List.setIfInBounds_toArray, List.set_cons_zero, List.set_cons_succ])) | (try simp only [Act.put, List.setIfInBounds_toArray, List.set_cons_zero, List.set_cons_succ]))
        refine wpAnyH_take (i := 5) (oi := { dst := some 17, op := Op.call { callee := Callee.value (Operand.func 51), args := #[Operand.tmp 16], argTypes := #[31] }, type := 4, pos := "span.go:9", after := #[{ on := 4, ground := Ground.data }, { on := 3, ground := Ground.chain }, { on := 3, ground := Ground.guard }], guard := some (3, false) }) (v := undef) rfl (by kernel_rfl) (by kernel_rfl) (by kernel_rfl) (fun _ _ _ h => h) (Or.inr ⟨by rfl, rfl⟩) (by assumption) ?_
        (first | ((fail_if_success (unfold Act.put)); (try simp only [List.setIfInBounds_toArray, List.set_cons_zero, List.set_cons_succ])) | (try simp only [Act.put, List.setIfInBounds_toArray, List.set_cons_zero, List.set_cons_succ]))
        refine wpAnyH_take (i := 6) (oi := { dst := some 18, op := Op.pick (Operand.tmp 15) (Operand.const (Value.bool true)) (Operand.tmp 17), type := 4, pos := "span.go:9", after := #[{ on := 3, ground := Ground.data }, { on := 5, ground := Ground.data }], guard := none }) (v := ?_) rfl (by kernel_rfl) (by kernel_rfl) (by kernel_rfl) (fun _ _ _ h => h) (Or.inl ⟨by rfl, ?_⟩) (by assumption) ?_
        rotate_left 1
        · (intro w hSw; (try dsimp only at hSw); go_simp <;> (with_reducible rfl))
        (first | ((fail_if_success (unfold Act.put)); (try simp only [List.setIfInBounds_toArray, List.set_cons_zero, List.set_cons_succ])) | (try simp only [Act.put, List.setIfInBounds_toArray, List.set_cons_zero, List.set_cons_succ]))
        refine wpAnyH_take (i := 7) (oi := { dst := some 19, op := Op.move (Operand.tmp 18), type := 4, pos := "span.go:9", after := #[{ on := 6, ground := Ground.data }, { on := 5, ground := Ground.chain }], guard := none }) (v := ?_) rfl (by kernel_rfl) (by kernel_rfl) (by kernel_rfl) (fun _ _ _ h => h) (Or.inl ⟨by rfl, ?_⟩) (by assumption) ?_
        rotate_left 1
        · (intro w hSw; (try dsimp only at hSw); go_simp <;> (with_reducible rfl))
        (first | ((fail_if_success (unfold Act.put)); (try simp only [List.setIfInBounds_toArray, List.set_cons_zero, List.set_cons_succ])) | (try simp only [Act.put, List.setIfInBounds_toArray, List.set_cons_zero, List.set_cons_succ]))
        refine wpAnyH_take (i := 8) (oi := { dst := some 20, op := Op.move (Operand.tmp 3), type := 3, pos := "span.go:9", after := #[{ on := 7, ground := Ground.guard }], guard := some (7, false) }) (v := undef) rfl (by kernel_rfl) (by kernel_rfl) (by kernel_rfl) (fun _ _ _ h => h) (Or.inr ⟨by rfl, rfl⟩) (by assumption) ?_
        (first | ((fail_if_success (unfold Act.put)); (try simp only [List.setIfInBounds_toArray, List.set_cons_zero, List.set_cons_succ])) | (try simp only [Act.put, List.setIfInBounds_toArray, List.set_cons_zero, List.set_cons_succ]))
        refine wpAnyH_take (i := 9) (oi := { dst := some 21, op := Op.binOp BinOp.gtr 3 (Operand.tmp 20) (Operand.const (Value.int IntKind.i64 0)) 3, type := 4, pos := "span.go:9", after := #[{ on := 8, ground := Ground.data }, { on := 7, ground := Ground.guard }], guard := some (7, false) }) (v := undef) rfl (by kernel_rfl) (by kernel_rfl) (by kernel_rfl) (fun _ _ _ h => h) (Or.inr ⟨by rfl, rfl⟩) (by assumption) ?_
        (first | ((fail_if_success (unfold Act.put)); (try simp only [List.setIfInBounds_toArray, List.set_cons_zero, List.set_cons_succ])) | (try simp only [Act.put, List.setIfInBounds_toArray, List.set_cons_zero, List.set_cons_succ]))
        refine wpAnyH_take (i := 10) (oi := { dst := some 22, op := Op.move (Operand.tmp 21), type := 4, pos := "span.go:9", after := #[{ on := 9, ground := Ground.data }, { on := 7, ground := Ground.chain }, { on := 7, ground := Ground.guard }], guard := some (7, false) }) (v := undef) rfl (by kernel_rfl) (by kernel_rfl) (by kernel_rfl) (fun _ _ _ h => h) (Or.inr ⟨by rfl, rfl⟩) (by assumption) ?_
        (first | ((fail_if_success (unfold Act.put)); (try simp only [List.setIfInBounds_toArray, List.set_cons_zero, List.set_cons_succ])) | (try simp only [Act.put, List.setIfInBounds_toArray, List.set_cons_zero, List.set_cons_succ]))
        refine wpAnyH_take (i := 11) (oi := { dst := some 23, op := Op.fieldAddr 31 (Operand.tmp 4) 0, type := 0, pos := "span.go:9", after := #[{ on := 10, ground := Ground.guard }], guard := some (10, true) }) (v := undef) rfl (by kernel_rfl) (by kernel_rfl) (by kernel_rfl) (fun _ _ _ h => h) (Or.inr ⟨by rfl, rfl⟩) (by assumption) ?_
        (first | ((fail_if_success (unfold Act.put)); (try simp only [List.setIfInBounds_toArray, List.set_cons_zero, List.set_cons_succ])) | (try simp only [Act.put, List.setIfInBounds_toArray, List.set_cons_zero, List.set_cons_succ]))
        refine wpAnyH_take (i := 12) (oi := { dst := some 24, op := Op.load 3 (Operand.tmp 23), type := 3, pos := "span.go:9", after := #[{ on := 11, ground := Ground.data }, { on := 10, ground := Ground.guard }], guard := some (10, true) }) (v := undef) rfl (by kernel_rfl) (by kernel_rfl) (by kernel_rfl) (fun _ _ _ h => h) (Or.inr ⟨by rfl, rfl⟩) (by assumption) ?_
        (first | ((fail_if_success (unfold Act.put)); (try simp only [List.setIfInBounds_toArray, List.set_cons_zero, List.set_cons_succ])) | (try simp only [Act.put, List.setIfInBounds_toArray, List.set_cons_zero, List.set_cons_succ]))
        refine wpAnyH_take (i := 13) (oi := { dst := some 25, op := Op.move (Operand.tmp 0), type := 22, pos := "span.go:9", after := #[{ on := 10, ground := Ground.guard }], guard := some (10, true) }) (v := undef) rfl (by kernel_rfl) (by kernel_rfl) (by kernel_rfl) (fun _ _ _ h => h) (Or.inr ⟨by rfl, rfl⟩) (by assumption) ?_
        (first | ((fail_if_success (unfold Act.put)); (try simp only [List.setIfInBounds_toArray, List.set_cons_zero, List.set_cons_succ])) | (try simp only [Act.put, List.setIfInBounds_toArray, List.set_cons_zero, List.set_cons_succ]))
        refine wpAnyH_take (i := 14) (oi := { dst := some 26, op := Op.move (Operand.tmp 3), type := 3, pos := "span.go:9", after := #[{ on := 10, ground := Ground.guard }], guard := some (10, true) }) (v := undef) rfl (by kernel_rfl) (by kernel_rfl) (by kernel_rfl) (fun _ _ _ h => h) (Or.inr ⟨by rfl, rfl⟩) (by assumption) ?_
        (first | ((fail_if_success (unfold Act.put)); (try simp only [List.setIfInBounds_toArray, List.set_cons_zero, List.set_cons_succ])) | (try simp only [Act.put, List.setIfInBounds_toArray, List.set_cons_zero, List.set_cons_succ]))
        refine wpAnyH_take (i := 15) (oi := { dst := some 27, op := Op.binOp BinOp.sub 3 (Operand.tmp 26) (Operand.const (Value.int IntKind.i64 1)) 3, type := 3, pos := "span.go:9", after := #[{ on := 14, ground := Ground.data }, { on := 10, ground := Ground.guard }], guard := some (10, true) }) (v := undef) rfl (by kernel_rfl) (by kernel_rfl) (by kernel_rfl) (fun _ _ _ h => h) (Or.inr ⟨by rfl, rfl⟩) (by assumption) ?_
        (first | ((fail_if_success (unfold Act.put)); (try simp only [List.setIfInBounds_toArray, List.set_cons_zero, List.set_cons_succ])) | (try simp only [Act.put, List.setIfInBounds_toArray, List.set_cons_zero, List.set_cons_succ]))
        refine wpAnyH_take (i := 16) (oi := { dst := some 28, op := Op.indexAddr 22 (Operand.tmp 25) (Operand.tmp 27), type := 0, pos := "span.go:9", after := #[{ on := 13, ground := Ground.data }, { on := 15, ground := Ground.data }, { on := 10, ground := Ground.guard }], guard := some (10, true) }) (v := undef) rfl (by kernel_rfl) (by kernel_rfl) (by kernel_rfl) (fun _ _ _ h => h) (Or.inr ⟨by rfl, rfl⟩) (by assumption) ?_
        (first | ((fail_if_success (unfold Act.put)); (try simp only [List.setIfInBounds_toArray, List.set_cons_zero, List.set_cons_succ])) | (try simp only [Act.put, List.setIfInBounds_toArray, List.set_cons_zero, List.set_cons_succ]))
        refine wpAnyH_take (i := 17) (oi := { dst := some 29, op := Op.fieldAddr 31 (Operand.tmp 28) 1, type := 0, pos := "span.go:9", after := #[{ on := 16, ground := Ground.data }, { on := 10, ground := Ground.guard }], guard := some (10, true) }) (v := undef) rfl (by kernel_rfl) (by kernel_rfl) (by kernel_rfl) (fun _ _ _ h => h) (Or.inr ⟨by rfl, rfl⟩) (by assumption) ?_
        (first | ((fail_if_success (unfold Act.put)); (try simp only [List.setIfInBounds_toArray, List.set_cons_zero, List.set_cons_succ])) | (try simp only [Act.put, List.setIfInBounds_toArray, List.set_cons_zero, List.set_cons_succ]))
        refine wpAnyH_take (i := 18) (oi := { dst := some 30, op := Op.load 3 (Operand.tmp 29), type := 3, pos := "span.go:9", after := #[{ on := 17, ground := Ground.data }, { on := 10, ground := Ground.guard }], guard := some (10, true) }) (v := undef) rfl (by kernel_rfl) (by kernel_rfl) (by kernel_rfl) (fun _ _ _ h => h) (Or.inr ⟨by rfl, rfl⟩) (by assumption) ?_
        (first | ((fail_if_success (unfold Act.put)); (try simp only [List.setIfInBounds_toArray, List.set_cons_zero, List.set_cons_succ])) | (try simp only [Act.put, List.setIfInBounds_toArray, List.set_cons_zero, List.set_cons_succ]))
        refine wpAnyH_take (i := 19) (oi := { dst := some 31, op := Op.binOp BinOp.leq 3 (Operand.tmp 24) (Operand.tmp 30) 3, type := 4, pos := "span.go:9", after := #[{ on := 12, ground := Ground.data }, { on := 18, ground := Ground.data }, { on := 10, ground := Ground.guard }], guard := some (10, true) }) (v := undef) rfl (by kernel_rfl) (by kernel_rfl) (by kernel_rfl) (fun _ _ _ h => h) (Or.inr ⟨by rfl, rfl⟩) (by assumption) ?_
        (first | ((fail_if_success (unfold Act.put)); (try simp only [List.setIfInBounds_toArray, List.set_cons_zero, List.set_cons_succ])) | (try simp only [Act.put, List.setIfInBounds_toArray, List.set_cons_zero, List.set_cons_succ]))
        refine wpAnyH_take (i := 20) (oi := { dst := some 32, op := Op.pick (Operand.tmp 22) (Operand.tmp 31) (Operand.const (Value.bool false)), type := 4, pos := "span.go:9", after := #[{ on := 10, ground := Ground.data }, { on := 19, ground := Ground.data }, { on := 7, ground := Ground.guard }], guard := some (7, false) }) (v := undef) rfl (by kernel_rfl) (by kernel_rfl) (by kernel_rfl) (fun _ _ _ h => h) (Or.inr ⟨by rfl, rfl⟩) (by assumption) ?_
        (first | ((fail_if_success (unfold Act.put)); (try simp only [List.setIfInBounds_toArray, List.set_cons_zero, List.set_cons_succ])) | (try simp only [Act.put, List.setIfInBounds_toArray, List.set_cons_zero, List.set_cons_succ]))
        refine wpAnyH_take (i := 21) (oi := { dst := some 33, op := Op.pick (Operand.tmp 19) (Operand.const (Value.bool true)) (Operand.tmp 32), type := 4, pos := "span.go:9", after := #[{ on := 7, ground := Ground.data }, { on := 20, ground := Ground.data }], guard := none }) (v := ?_) rfl (by kernel_rfl) (by kernel_rfl) (by kernel_rfl) (fun _ _ _ h => h) (Or.inl ⟨by rfl, ?_⟩) (by assumption) ?_
        rotate_left 1
        · (intro w hSw; (try dsimp only at hSw); go_simp <;> (with_reducible rfl))
        (first | ((fail_if_success (unfold Act.put)); (try simp only [List.setIfInBounds_toArray, List.set_cons_zero, List.set_cons_succ])) | (try simp only [Act.put, List.setIfInBounds_toArray, List.set_cons_zero, List.set_cons_succ]))
        refine wpAnyH_done (by kernel_rfl) ?_ _
        refine NoPanic.normal ?_
        clear hR1
        go_wp2
        go_ret
        exact ⟨by rw [HF.out]; rfl, HB.out.trans (((Below.refl _ _).drew).trans (hb2.mono (Nat.le_of_lt (Nat.lt_of_le_of_lt hb.size hsz))))⟩
    · have e : l.take k = l := List.take_of_length_le (by omega)
      rw [e] at HK
      have e2 : vldB l = true := (vldB_iff l).2 HK.out
      have HE := Lib.hid e2
      clear e e2
      go_wp2
      go_ret
      exact ⟨by rw [HE.out]; rfl, hb⟩
end Go.Proofs.YtanlaejdibikiaaGreat
