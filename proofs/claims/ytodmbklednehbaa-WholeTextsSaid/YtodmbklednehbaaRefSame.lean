/-
The reference's 'Same', 'Make', 'FromInt'.
-/
import Derived.Test.YtodmbklednehbaaAre
import Derived.Deep.QuietTactic
import Derived.BigQuiet
import Derived.Outline
namespace Go.Proofs.Ytodmbklednehbaa
open Go.RowKit Wh

def SameRel (l l' : List Nat) (w wr : World) (X2 X3 : Nat) (x2 y2 x3 y3 : Value) (v5 : Value) : Prop :=
  ∃ k : Nat, k ≤ l.length ∧ v5 = .int .i64 (k : Int) ∧ (∀ j, j < k → l[j]?.getD 0 = l'[j]?.getD 0) ∧ Below w.heap.size w wr ∧ Bx wr X2 x2 y2 ∧ Bx wr X3 x3 y3

theorem belowN {B : Nat} {a w : World} (h : Below B a w) (n : Nat) : Below B a (w.drewN n) := h.trans ⟨rfl, rfl, rfl, Nat.le_refl _, fun _ _ => rfl⟩
theorem Bx.drewN {W : World} {B : Nat} {x y : Value} (h : Bx W B x y) (n : Nat) : Bx (W.drewN n) B x y := h

theorem eq_of_all {l l' : List Nat} (h : l.length = l'.length) (hz : ∀ j, j < l.length → l[j]?.getD 0 = l'[j]?.getD 0) : l = l' := by
  refine List.ext_getElem h fun j h1 h2 => ?_
  have := hz j h1
  rwa [getD_lt_length h1, getD_lt_length h2] at this

theorem cell_of_lim {W : World} {b off n cap : Nat} {l : List Nat} (h : Lim W (.slice (some ⟨b, off, none⟩) n cap) l) (j : Nat) (hj : j < l.length) : W.cell? ⟨b, off + j, none⟩ = some (.int .u16 ((l[j]?.getD 0 : Nat) : Int)) := by
  obtain ⟨b', off', e, -, hc⟩ := h.block (fun e => by rw [e] at hj; simp at hj)
  cases e
  exact hc j hj

theorem lim_addr {W : World} {a : Option Addr} {n cap : Nat} {l : List Nat} (h : Lim W (.slice a n cap) l) (hl : 0 < l.length) : ∃ b off, a = some ⟨b, off, none⟩ := by
  obtain ⟨b', off', e, -, -⟩ := h.block (fun e => by rw [e] at hl; simp at hl)
  exact ⟨b', off', e⟩

set_option maxRecDepth 100000 in
set_option maxHeartbeats 2000000 in
theorem refSame_any (b : Bool) (s : Value) (l : List Nat) (b' : Bool) (s' : Value) (l' : List Nat) (w : World) (h : Lim w s l) (g : Lim w s' l') :
    Calls Try.prog 47 #[.agg #[.bool b, s], .agg #[.bool b', s']] w fun e w' => e = .returned (.bool (decide (b = b' ∧ l = l'))) ∧ Below w.heap.size w w' := by
  obtain ⟨aa, ca, rfl, hlc, ⟨hcm, hcl, -⟩, -⟩ := id h
  obtain ⟨ab, cb, rfl, glc, ⟨gcm, gcl, -⟩, -⟩ := id g
  have hz := ((Below.refl w.heap.size w).alloc (Nat.le_refl _) (.cells #[.bool b, .slice aa l.length ca] 26)).alloc (by simp) (.cells #[.bool b', .slice ab l'.length cb] 26)
  have x2 := (Bx.new w (.bool b) (.slice aa l.length ca)).alloc (.cells #[.bool b', .slice ab l'.length cb] 26)
  have x3 := Bx.new (w.alloc (.cells #[.bool b, .slice aa l.length ca] 26)) (.bool b') (.slice ab l'.length cb)
  simp only [World.size_alloc] at x3
  obtain ⟨r, hr⟩ : ∃ r, r = decide (b = b' ∧ l = l') := ⟨_, rfl⟩
  rw [← hr]
  have HR := Lib.hid hr
  clear hr
  by_cases hb : b = b'
  · subst hb
    by_cases hl : l.length = l'.length
    · have hl0 : ((l.length : Int) != (l'.length : Int)) = false := by simp [hl]
      have HL := Lib.hid hl
      clear hl
      go_enter Try.func47, Try.ntmps47
      go_wp2
      go_loopw [5] (fun v5 wr => SameRel l l' w wr w.heap.size (w.heap.size + 1) (.bool b) (.slice aa l.length ca) (.bool b) (.slice ab l'.length cb) v5) (fun v5 _ => l.length - (intOf v5).toNat)
      case atStart => exact ⟨0, Nat.zero_le _, rfl, fun j h => absurd h (Nat.not_lt_zero _), hz, x2, x3⟩
      case round =>
        obtain ⟨k, hk, rfl, hz1, hB, y2, y3⟩ := hrel
        obtain ⟨p2, p2'⟩ := y2.cells
        obtain ⟨p3, p3'⟩ := y3.cells
        have HZ := Lib.hid hz1
        clear hz1
        rcases Nat.lt_or_ge k l.length with hlt | hge
        · have hlt' : k < l'.length := by rw [← HL.out]; exact hlt
          obtain ⟨b1, o1, rfl⟩ := lim_addr h (by omega)
          obtain ⟨b2, o2, rfl⟩ := lim_addr g (by omega)
          have c1 := cell_of_lim (h.below hB (Nat.le_refl _)) k hlt
          have c2 := cell_of_lim (g.below hB (Nat.le_refl _)) k hlt'
          have i1 : (k : Int) < (l.length : Int) := by omega
          have i2 : (k : Int) < (l'.length : Int) := by omega
          have i0 : (0 : Int) ≤ (k : Int) := by omega
          obtain ⟨x, hx⟩ : ∃ x, x = l[k]?.getD 0 := ⟨_, rfl⟩
          obtain ⟨y, hy⟩ : ∃ y, y = l'[k]?.getD 0 := ⟨_, rfl⟩
          rw [← hx] at c1
          rw [← hy] at c2
          have HX := Lib.hid hx
          have HY := Lib.hid hy
          clear hx hy
          by_cases hxy : x = y
          · have hxy0 : ((x : Int) != (y : Int)) = false := by simp [hxy]
            have HXY := Lib.hid hxy
            clear hxy
            go_wp2
            go_quiet (fail)
            go_wp2
            case roundEnd =>
              refine ⟨⟨k + 1, by omega, by go_num, fun j hj => ?_, belowN hB _, y2.drewN _, y3.drewN _⟩, by simp [intOf]; omega⟩
              by_cases e : j = k
              · subst e; rw [← HX.out, ← HY.out]; exact HXY.out
              · exact HZ.out j (by omega)
          · have hxy0 : ((x : Int) != (y : Int)) = true := by simp; omega
            have HXY := Lib.hid hxy
            clear hxy
            go_wp2
            go_quiet (fail)
            go_wp2
            have hr0 : r = false := by
              rw [HR.out]
              exact decide_eq_false fun e => HXY.out (by rw [HX.out, HY.out, e.2])
            go_ret
            exact ⟨by rw [hr0]; rfl, belowN hB _⟩
        · have hge' : ¬ (k : Int) < (l.length : Int) := by omega
          go_wp2
          have hr0 : r = true := by
            rw [HR.out]
            have E := eq_of_all HL.out fun j hj => HZ.out j (by omega)
            exact decide_eq_true (by first | exact ⟨rfl, E⟩ | exact ⟨trivial, E⟩ | exact E)
          go_ret
          exact ⟨by rw [hr0]; rfl, hB⟩
    · have hl0 : ((l.length : Int) != (l'.length : Int)) = true := by simp; omega
      have hr0 : Hid (r = false) := Lib.hid (by rw [HR.out]; exact decide_eq_false fun e => hl (by rw [e.2]))
      clear hl
      go_enter Try.func47, Try.ntmps47
      go_wp2
      go_ret
      exact ⟨by rw [hr0.out]; rfl, hz⟩
  · have hb0 : b' = !b := by cases b <;> cases b' <;> simp at hb ⊢
    have hr0 : Hid (r = false) := Lib.hid (by rw [HR.out]; exact decide_eq_false fun e => hb e.1)
    subst hb0
    clear hb
    go_enter Try.func47, Try.ntmps47
    go_wp2
    go_ret
    exact ⟨by rw [hr0.out]; rfl, hz⟩

set_option maxRecDepth 100000 in
set_option maxHeartbeats 1000000 in
theorem refMake_any (b : Bool) (s : Value) (l : List Nat) (w : World) (h : Lim w s l) :
    Calls Try.prog 62 #[.bool b, s] w fun e w' => e = .returned (.agg #[.bool (b && decide (l ≠ [])), s]) ∧ Below w.heap.size w w' := by
  obtain ⟨a, cap, rfl, hlc, ⟨hcm, hcl, hcn⟩, hcs⟩ := id h
  clear hcn hcs
  cases b with
  | false =>
    go_enter Try.func62, Try.ntmps62
    go_wp2
    exact bodyPost_ret (v := .agg #[.bool false, .slice a l.length cap]) (by simp [results, Try.results62, go_sem]) rfl ⟨by simp, (Below.refl _ _).alloc (Nat.le_refl _) _⟩
  | true =>
    by_cases hl : l = []
    · subst hl
      go_enter Try.func62, Try.ntmps62
      go_wp2
      exact bodyPost_ret (v := .agg #[.bool false, .slice a 0 cap]) (by simp [results, Try.results62, go_sem]) rfl ⟨by simp, (Below.refl _ _).alloc (Nat.le_refl _) _⟩
    · have h0 : (0 : Int) < (l.length : Int) := by have := List.length_pos_iff.2 hl; omega
      go_enter Try.func62, Try.ntmps62
      go_wp2
      have hpos : 0 < l.length := List.length_pos_iff.2 hl
      exact bodyPost_ret (v := .agg #[.bool true, .slice a l.length cap]) (by simp [results, Try.results62, go_sem, hpos]) rfl ⟨by simp [hl], (Below.refl _ _).alloc (Nat.le_refl _) _⟩

end Go.Proofs.Ytodmbklednehbaa
