/-
'number', 'Valid', 'allValid'.
-/
import Derived.Test.YtodmbklednehbaaSmall
namespace Go.Proofs.Ytodmbklednehbaa
open Go.RowKit Wh

/-- Whether a sign and limbs are a valid number. -/
def vld (neg : Bool) (l : List Nat) : Bool := if l = [] then !neg else decide (l.length ≤ 1024) && decide (l[l.length - 1]?.getD 0 ≠ 0)

set_option maxRecDepth 100000 in
set_option maxHeartbeats 1000000 in
theorem number_any (b : Bool) (s : Value) (l : List Nat) (w : World) (h : Lim w s l) :
    Calls Try.prog 52 #[.bool b, s] w fun e w' => e = .returned (.agg #[.bool (b && decide (l ≠ [])), s]) ∧ Below w.heap.size w w' := by
  obtain ⟨a, cap, rfl, hlc, ⟨hcm, hcl, hcn⟩, hcs⟩ := id h
  clear hcn hcs
  cases b with
  | false =>
    go_enter Try.func52, Try.ntmps52
    go_wp2
    exact bodyPost_ret (v := .agg #[.bool false, .slice a l.length cap]) (by simp [results, Try.results52, go_sem]) rfl ⟨by simp, (Below.refl _ _).alloc (Nat.le_refl _) _⟩
  | true =>
    by_cases hl : l = []
    · subst hl
      go_enter Try.func52, Try.ntmps52
      go_wp2
      exact bodyPost_ret (v := .agg #[.bool false, .slice a 0 cap]) (by simp [results, Try.results52, go_sem]) rfl ⟨by simp, (Below.refl _ _).alloc (Nat.le_refl _) _⟩
    · have h0 : (0 : Int) < (l.length : Int) := by have := List.length_pos_iff.2 hl; omega
      go_enter Try.func52, Try.ntmps52
      go_wp2
      have hpos : 0 < l.length := List.length_pos_iff.2 hl
      exact bodyPost_ret (v := .agg #[.bool true, .slice a l.length cap]) (by simp [results, Try.results52, go_sem, hpos]) rfl ⟨by simp [hl], (Below.refl _ _).alloc (Nat.le_refl _) _⟩

set_option maxRecDepth 100000 in
set_option maxHeartbeats 1000000 in
theorem Valid_any (b : Bool) (s : Value) (l : List Nat) (w : World) (h : Lim w s l) :
    Calls Try.prog 20 #[.agg #[.bool b, s]] w fun e w' => e = .returned (.bool (vld b l)) ∧ Below w.heap.size w w' := by
  obtain ⟨a, cap, rfl, hlc, ⟨hcm, hcl, hcn⟩, hcs⟩ := id h
  clear hcn
  by_cases hl : l = []
  · subst hl
    go_enter Try.func20, Try.ntmps20
    go_wp2
    go_ret
    exact ⟨by simp [vld], (Below.refl _ _).alloc (Nat.le_refl _) _⟩
  · have h0 : (0 : Int) < (l.length : Int) := by have := List.length_pos_iff.2 hl; omega
    have h1 : ((l.length : Int) == 0) = false := by simp; exact hl
    rcases hcs with hcs | ⟨bk, off, rfl, hc⟩
    · exact absurd hcs hl
    · have hlast := hc (l.length - 1) (by omega)
      have hbl : bk < w.heap.size := lt_of_cell hlast
      by_cases hlen : l.length ≤ 1024
      · have h2 : (l.length : Int) ≤ 1024 := by omega
        have e1 : off + (l.length - 1) = off + ((l.length : Int) - 1).toNat := by omega
        rw [e1] at hlast
        go_enter Try.func20, Try.ntmps20
        go_wp2
        go_ret
        have e3 : vld b l = (((l[l.length - 1]?.getD 0 : Nat) : Int) != 0) := by
          unfold vld
          rw [if_neg hl, decide_eq_true hlen, Bool.true_and, Bool.eq_iff_iff]
          simp
        exact ⟨by rw [e3]; rfl, (Below.refl _ _).alloc (Nat.le_refl _) _⟩
      · have h2 : ¬ (l.length : Int) ≤ 1024 := by omega
        go_enter Try.func20, Try.ntmps20
        go_wp2
        go_ret
        have e3 : vld b l = false := by
          unfold vld
          rw [if_neg hl, decide_eq_false hlen, Bool.false_and]
        exact ⟨by rw [e3]; rfl, (Below.refl _ _).alloc (Nat.le_refl _) _⟩

set_option maxRecDepth 100000 in
set_option maxHeartbeats 1000000 in
theorem allValid_one (B : Nat) (b : Bool) (s : Value) (l : List Nat) (w : World) (h0 : w.cell? ⟨B, 0, none⟩ = some (.bool b)) (h1 : w.cell? ⟨B, 1, none⟩ = some s) (h : Lim w s l) :
    Calls Try.prog 48 #[.slice (some ⟨B, 0, none⟩) 1 1] w fun e w' => e = .returned (.bool (vld b l)) ∧ Below w.heap.size w w' := by
  have hB : B < w.heap.size := lt_of_cell h0
  have hV := fun W (hW : Below w.heap.size w W) => Valid_any b s l W (h.below hW (Nat.le_refl _))
  have HV := Lib.hid hV
  clear hV
  obtain ⟨a, cap, rfl, -⟩ := id h
  clear h
  obtain ⟨v, hv⟩ : ∃ v, v = vld b l := ⟨_, rfl⟩
  rw [← hv] at HV ⊢
  clear hv
  have hz := (Below.refl w.heap.size w).alloc (Nat.le_refl _) (.cells #[.bool b, .slice a l.length cap] 26)
  cases v with
  | true =>
    go_enter Try.func48, Try.ntmps48
    go_wp2_with fail
    refine wp_loop_rounds 2 ?_
    rw [rounds_succ]
    go_wp2_with (go_at_call 20; refine (HV.out _ hz).mono ?_; rintro e w1 ⟨rfl, hb1⟩)
    rw [rounds_succ]
    go_wp2
    go_ret
    exact ⟨rfl, hz.trans (hb1.mono (by simp))⟩
  | false =>
    go_enter Try.func48, Try.ntmps48
    go_wp2_with fail
    refine wp_loop_rounds 2 ?_
    rw [rounds_succ]
    go_wp2_with (go_at_call 20; refine (HV.out _ hz).mono ?_; rintro e w1 ⟨rfl, hb1⟩)
    go_ret
    exact ⟨rfl, hz.trans (hb1.mono (by simp))⟩

theorem bcell {W w1 : World} (hb : Below W.heap.size W w1) : (∀ b o, b < W.heap.size → w1.cell? ⟨b, o, none⟩ = W.cell? ⟨b, o, none⟩) ∧ (∀ b o, b < W.heap.size → w1.frozen? ⟨b, o, none⟩ = W.frozen? ⟨b, o, none⟩) :=
  ⟨fun b o h => hb.cell (p := ⟨b, o, none⟩) h, fun b o h => hb.frozen (p := ⟨b, o, none⟩) h⟩

set_option maxRecDepth 100000 in
set_option maxHeartbeats 1000000 in
theorem allValid_two (B : Nat) (b : Bool) (s : Value) (l : List Nat) (b' : Bool) (s' : Value) (l' : List Nat) (w : World) (h0 : w.cell? ⟨B, 0, none⟩ = some (.bool b)) (h1 : w.cell? ⟨B, 1, none⟩ = some s)
    (h2 : w.cell? ⟨B, 2, none⟩ = some (.bool b')) (h3 : w.cell? ⟨B, 3, none⟩ = some s') (h : Lim w s l) (g : Lim w s' l') :
    Calls Try.prog 48 #[.slice (some ⟨B, 0, none⟩) 2 2] w fun e w' => e = .returned (.bool (vld b l && vld b' l')) ∧ Below w.heap.size w w' := by
  have hB : B < w.heap.size := lt_of_cell h0
  have hV := fun W (hW : Below w.heap.size w W) => Valid_any b s l W (h.below hW (Nat.le_refl _))
  have gV := fun W (hW : Below w.heap.size w W) => Valid_any b' s' l' W (g.below hW (Nat.le_refl _))
  have HV := Lib.hid hV
  have GV := Lib.hid gV
  clear hV gV
  obtain ⟨a, cap, rfl, -⟩ := id h
  obtain ⟨a', cap', rfl, -⟩ := id g
  clear h g
  obtain ⟨v, hv⟩ : ∃ v, v = vld b l := ⟨_, rfl⟩
  obtain ⟨v', hv'⟩ : ∃ v, v = vld b' l' := ⟨_, rfl⟩
  rw [← hv] at HV ⊢
  rw [← hv'] at GV ⊢
  clear hv hv'
  have hz := (Below.refl w.heap.size w).alloc (Nat.le_refl _) (.cells #[.bool b, .slice a l.length cap] 26)
  cases v with
  | true =>
    cases v' with
    | true =>
      go_enter Try.func48, Try.ntmps48
      go_wp2_with fail
      refine wp_loop_rounds 3 ?_
      rw [rounds_succ]
      go_wp2_with (go_at_call 20; refine (HV.out _ hz).mono ?_; rintro e w1 ⟨rfl, hb1⟩; obtain ⟨hc1, hf1⟩ := bcell hb1; have hs1 := hb1.size; simp only [World.size_alloc] at hs1 hc1 hf1)
      rw [rounds_succ]
      go_wp2_with (go_at_call 20; refine (GV.out _ ((hz.trans (hb1.mono (by simp))).alloc (by omega) _)).mono ?_; rintro e w2 ⟨rfl, hb2⟩)
      rw [rounds_succ]
      go_wp2
      go_ret
      exact ⟨rfl, ((hz.trans (hb1.mono (by simp))).alloc (by omega) _).trans (hb2.mono (by simp; omega))⟩
    | false =>
      go_enter Try.func48, Try.ntmps48
      go_wp2_with fail
      refine wp_loop_rounds 3 ?_
      rw [rounds_succ]
      go_wp2_with (go_at_call 20; refine (HV.out _ hz).mono ?_; rintro e w1 ⟨rfl, hb1⟩; obtain ⟨hc1, hf1⟩ := bcell hb1; have hs1 := hb1.size; simp only [World.size_alloc] at hs1 hc1 hf1)
      rw [rounds_succ]
      go_wp2_with (go_at_call 20; refine (GV.out _ ((hz.trans (hb1.mono (by simp))).alloc (by omega) _)).mono ?_; rintro e w2 ⟨rfl, hb2⟩)
      go_ret
      exact ⟨rfl, ((hz.trans (hb1.mono (by simp))).alloc (by omega) _).trans (hb2.mono (by simp; omega))⟩
  | false =>
    go_enter Try.func48, Try.ntmps48
    go_wp2_with fail
    refine wp_loop_rounds 3 ?_
    rw [rounds_succ]
    go_wp2_with (go_at_call 20; refine (HV.out _ hz).mono ?_; rintro e w1 ⟨rfl, hb1⟩)
    go_ret
    exact ⟨rfl, hz.trans (hb1.mono (by simp))⟩

end Go.Proofs.Ytodmbklednehbaa
