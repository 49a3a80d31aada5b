/-
'limbsOf' and 'copied'.
-/
import Derived.Test.YtodmbklednehbaaCompare
namespace Go.Proofs.Ytodmbklednehbaa
open Go.RowKit Wh

theorem cell_at {W : World} {B : Nat} {C : Array Value} {T : TypeId} {m : Nat × Nat} (h : W.heap[B]? = some (.cells C T m)) (j : Nat) : W.cell? ⟨B, 0 + j, none⟩ = C[j]? := by
  simp [World.cell?, h]

theorem four (n : Nat) (w : World) (T : TypeId) : Lim (w.alloc (.cells #[.int .u16 (IntKind.u16.wrap (n : Int)), .int .u16 (IntKind.u16.wrap ((n : Int) / 65536)), .int .u16 (IntKind.u16.wrap ((n : Int) / 4294967296)), .int .u16 ((n : Int) / 281474976710656)] T)) (.slice (some ⟨w.heap.size, 0, none⟩) 4 4)
    [n % 65536, n / 65536 % 65536, n / 4294967296 % 65536, n / 281474976710656] := by
  refine ⟨_, 4, rfl, by simp, ⟨by omega, by simp, fun e => by cases e⟩, .inr ⟨w.heap.size, 0, rfl, fun j hj => ?_⟩⟩
  have e1 : IntKind.u16.wrap (n : Int) = ((n % 65536 : Nat) : Int) := by rw [IntKind.wrap_u16]; omega
  have e2 : IntKind.u16.wrap ((n : Int) / 65536) = ((n / 65536 % 65536 : Nat) : Int) := by rw [IntKind.wrap_u16]; omega
  have e3 : IntKind.u16.wrap ((n : Int) / 4294967296) = ((n / 4294967296 % 65536 : Nat) : Int) := by rw [IntKind.wrap_u16]; omega
  rw [e1, e2, e3]
  have hh := World.alloc_heap_new w (.cells #[.int .u16 ((n % 65536 : Nat) : Int), .int .u16 ((n / 65536 % 65536 : Nat) : Int), .int .u16 ((n / 4294967296 % 65536 : Nat) : Int), .int .u16 ((n : Int) / 281474976710656)] T)
  simp only [List.length_cons, List.length_nil] at hj
  match j, hj with
  | 0, _ => rw [cell_at hh]; simp
  | 1, _ => rw [cell_at hh]; simp
  | 2, _ => rw [cell_at hh]; simp
  | 3, _ => rw [cell_at hh]; simp

set_option maxRecDepth 100000 in
set_option maxHeartbeats 1000000 in
theorem limbsOf_any (n : Nat) (hn : n < 18446744073709551616) (w : World) :
    Calls Try.prog 58 #[.int .u64 (n : Int)] w fun e w' => (∃ v', e = .returned v' ∧ LimF w.heap.size w' v' (dig n)) ∧ Below w.heap.size w w' := by
  go_enter Try.func58, Try.ntmps58
  go_wp2_with fail
  refine wp_loop_rounds 5 ?_
  rw [rounds_succ]
  go_wp2_with fail
  rw [rounds_succ]
  go_wp2_with fail
  rw [rounds_succ]
  go_wp2_with fail
  rw [rounds_succ]
  go_wp2_with fail
  rw [rounds_succ]
  go_wp2_with fail
  refine (trim_any _ [n % 65536, n / 65536 % 65536, n / 4294967296 % 65536, n / 281474976710656] ?_ _ (four n w _)).mono ?_
  · intro x hx
    simp at hx
    omega
  have ev : val [n % 65536, n / 65536 % 65536, n / 4294967296 % 65536, n / 281474976710656] = n := by
    simp only [val_cons, val_nil]; omega
  rw [ev]
  clear ev
  rintro e w1 ⟨⟨v', rfl, hl', hpt⟩, hb⟩
  have hfr := ((Fr.part (.inr ⟨w.heap.size, 4, 4, _, _, rfl, Nat.le_refl _, World.alloc_heap_new w _, rfl⟩) hpt).below hb)
  go_wp2
  go_ret
  exact ⟨⟨v', rfl, hl', hfr⟩, ((Below.refl _ w).alloc (Nat.le_refl _) _).trans (hb.mono (by simp))⟩

theorem Try.infoU : (Try.prog.info? 22).map (fun i => (i.zero, i.size, i.bytes)) = some (some (.int .u16 0), 1, 2) := by kernel_rfl

set_option maxRecDepth 100000 in
set_option maxHeartbeats 1000000 in
theorem copied_any (sv : Value) (l : List Nat) (w : World) (h : Lim w sv l) :
    Calls Try.prog 69 #[sv] w fun e w' => (∃ v', e = .returned v' ∧ Lim w' v' l ∧ w'.ownsRow w.heap.size 22 1 v' l.length (cellsOf l)) ∧ Below w.heap.size w w' := by
  have h' := h
  obtain ⟨a, cap, rfl, hlc, ⟨hcm, hcl, hcn⟩, hcs⟩ := h'
  obtain ⟨i0, hi, hz0, hz1, hz2⟩ := info_parts Try.infoU
  cases a with
  | none =>
    have h0 : cap = 0 := hcn rfl
    subst h0
    have h1 : l = [] := List.eq_nil_of_length_eq_zero (by omega)
    subst h1
    clear hcn hcs h
    go_enter Try.func69, Try.ntmps69
    go_wp2
    go_ret
    exact ⟨⟨_, rfl, Lim.nil _, World.ownsRow_nil _ _ _ _⟩, Below.refl _ _⟩
  | some ad =>
    have hnews : ∀ j u, (cellsOf l)[j]? = some u → w.cell? (ad.add j) = some u := fun j u hu => by
      have hj : j < l.length := by
        have := (List.getElem?_eq_some_iff.1 hu).1
        simpa [cellsOf] using this
      rcases hcs with rfl | ⟨b, off, e, hc⟩
      · simp at hj
      · cases e
        rw [← hu, cellsOf_get l j hj, add_eq]
        exact hc j hj
    have h1c : ∀ u ∈ cellsOf l, u.oneCell' = true := fun u hu => by
      obtain ⟨x, _, rfl⟩ := List.mem_map.1 hu
      rfl
    clear hcn hcs h
    go_enter Try.func69, Try.ntmps69
    go_wp2_with (at_builtin; refine wpList_append_own _ rfl _ _ 24 rfl w.heap.size 22 i0 (.int .u16 0) 1 2 Try.underlying24 hi hz0 hz1 hz2 rfl (by decide) _ _ [] rfl (World.ownsRow_nil _ _ _ _) ad l.length cap (cellsOf l) rfl (by simp [cellsOf]) hnews h1c (by unfold maxLen; omega) (by omega) (Nat.le_refl _) ?_; intro v' w1 hown hgrow _)
    go_ret
    simp only [Nat.zero_add, List.nil_append] at hown
    have hg2 : w.grownBy w1 none := hgrow
    exact ⟨⟨_, rfl, Lim.of_owns hown hcl, hown⟩, (Below.refl _ w).grown hg2 (Nat.le_refl _) (fun k e => by cases e)⟩

end Go.Proofs.Ytodmbklednehbaa
