/- A part of the proofs about fractions. -/
import Derived.Outline
import Derived.Test.YtmbcnfogjncdaaaQWl4
import Derived.Test.YtmbcnfogjncdaaaQWl8
set_option maxRecDepth 100000
set_option maxHeartbeats 1000000
namespace Go.Proofs.Ytmbcnfogjncdaaa
open Go.RowKit Wh
theorem divisor_any (va vb : Value) (a b : Int) (ha : (dig a.natAbs).length ≤ 16384) (hb : (dig b.natAbs).length ≤ 16384) (w : World) (h : Num w va a) (g : Num w vb b) :
  Calls Try.prog 47 #[va, vb] w fun e w' => (∃ v, e = .returned v ∧ NumF w.heap.size w' v ((Nat.gcd a.natAbs b.natAbs : Nat) : Int)) ∧ Below w.heap.size w w' := by
 obtain ⟨sa, rfl, la⟩ := h
 obtain ⟨sb, rfl, lb⟩ := g
 have hw1 := fun W (hW : Below w.heap.size w W) => commonDivisor_any sa sb a.natAbs b.natAbs ha hb W (la.below hW (Nat.le_refl _)) (lb.below hW (Nat.le_refl _))
 have hw2 := fun W s (hl : Lim W s (dig (Nat.gcd a.natAbs b.natAbs))) => number_any false s _ W hl
 rw [Bool.false_and] at hw2
 have HW1 := Lib.hid hw1
 have HW2 := Lib.hid hw2
 obtain ⟨aa, ca, rfl⟩ := lim_slice la
 obtain ⟨ab, cb, rfl⟩ := lim_slice lb
 clear hw1 hw2 la lb ha hb
 have e0 : decide (((Nat.gcd a.natAbs b.natAbs : Nat) : Int) < 0) = false := by simp
 have e1 : (((Nat.gcd a.natAbs b.natAbs : Nat) : Int)).natAbs = Nat.gcd a.natAbs b.natAbs := Int.natAbs_natCast _
 unfold NumF
 rw [e0, e1]
 clear e0 e1
 obtain ⟨na, hna⟩ : ∃ n, n = decide (a < 0) := ⟨_, rfl⟩
 obtain ⟨nb, hnb⟩ : ∃ n, n = decide (b < 0) := ⟨_, rfl⟩
 obtain ⟨z, hzz⟩ : ∃ z, z = Nat.gcd a.natAbs b.natAbs := ⟨_, rfl⟩
 obtain ⟨ja, hja⟩ : ∃ n, n = (dig a.natAbs).length := ⟨_, rfl⟩
 obtain ⟨jb, hjb⟩ : ∃ n, n = (dig b.natAbs).length := ⟨_, rfl⟩
 rw [← hzz, ← hja, ← hjb] at HW1
 rw [← hzz] at HW2
 rw [← hna, ← hnb, ← hzz, ← hja, ← hjb]
 clear hna hnb hzz hja hjb
 have hz := (((Below.refl w.heap.size w).alloc (Nat.le_refl _) (.cells #[.bool na, .slice aa ja ca] 26)).alloc (by simp) (.cells #[.bool nb, .slice ab jb cb] 26)).alloc (by simp <;> omega) (.cells #[.bool false, .slice none 0 0] 26)
 have x4 := Bx.new ((w.alloc (.cells #[.bool na, .slice aa ja ca] 26)).alloc (.cells #[.bool nb, .slice ab jb cb] 26)) (.bool false) (.slice none 0 0)
 simp only [World.size_alloc] at x4
 go_enter Try.func47, Try.ntmps47
 go_wp2_with (first
  | (go_at_call 57; refine (HW1.out _ hz).mono ?_; rintro e w2 ⟨⟨s, rfl, hl⟩, hb2⟩; obtain ⟨a3, c3, rfl⟩ := lf_slice hl; have hB2 := hz.trans (hb2.mono hz.size); have z4 := x4.on hb2)
  | (go_at_call 34; refine (HW2.out _ _ hl.1).mono ?_; rintro e w3 ⟨rfl, hb3⟩; have hB3 := hB2.trans (hb3.mono hB2.size); have v4 := z4.on hb3; obtain ⟨p4, p4'⟩ := v4.cells; obtain ⟨f4, f4'⟩ := v4.free))
 have hl3 := ((hl.below hb3).put (B' := w.heap.size + 1 + 1) (by simp <;> omega) (.bool false) (.slice a3 (dig z).length c3)).mono hz.size
 obtain ⟨k4, k4'⟩ := (v4.put (.bool false) (.slice a3 (dig z).length c3)).cells
 exact bodyPost_ret (v := .agg #[.bool false, .slice a3 (dig z).length c3]) (by simp [results, Try.results47, go_sem, k4, k4']) rfl ⟨⟨_, rfl, _, rfl, hl3⟩, Below.put hB3 (by omega) _ _⟩
def Row2 (W : World) (B : Nat) (b : Bool) (s : Value) (b' : Bool) (s' : Value) : Prop := W.cell? ⟨B, 0, none⟩ = some (.bool b) ∧ W.cell? ⟨B, 1, none⟩ = some s ∧ W.cell? ⟨B, 2, none⟩ = some (.bool b') ∧ W.cell? ⟨B, 3, none⟩ = some s'
theorem Row2.on {W W' : World} {B b s b' s'} (h : Row2 W B b s b' s') (hb : Below W.heap.size W W') : Row2 W' B b s b' s' := by
 obtain ⟨h0, h1, h2, h3⟩ := h
 have hl := lt_of_cell h0
 exact ⟨(hb.cell (p := ⟨B, 0, none⟩) hl).trans h0, (hb.cell (p := ⟨B, 1, none⟩) hl).trans h1, (hb.cell (p := ⟨B, 2, none⟩) hl).trans h2, (hb.cell (p := ⟨B, 3, none⟩) hl).trans h3⟩
theorem join_bad (fv : Value) (B : Nat) (b : Bool) (s : Value) (l : List Nat) (b' : Bool) (s' : Value) (l' : List Nat) (w : World) (hr : Row2 w B b s b' s') (h : Lim w s l) (g : Lim w s' l') (hv : (vld b l && vld b' l') = false) :
  Calls Try.prog 16 #[fv, .slice (some ⟨B, 0, none⟩) 2 2] w fun e w' => e = .returned (.tuple #[.agg #[.bool false, .slice none 0 0], .int .i64 2]) ∧ Below w.heap.size w w' := by
 have hz := (Below.refl w.heap.size w).alloc (Nat.le_refl _) (.cells #[.bool false, .slice none 0 0] 26)
 have x4 := Bx.new w (.bool false) (.slice none 0 0)
 obtain ⟨c0, c1, c2, c3⟩ := hr.on ((Below.refl w.heap.size w).alloc (Nat.le_refl _) (.cells #[.bool false, .slice none 0 0] 26))
 have hw1 := allValid_two B b s l b' s' l' _ c0 c1 c2 c3 (h.below hz (Nat.le_refl _)) (g.below hz (Nat.le_refl _))
 rw [hv] at hw1
 have HW1 := Lib.hid hw1
 clear hw1 c0 c1 c2 c3 hr h g hv
 go_enter Try.func16, Try.ntmps16
 go_wp2_with (go_at_call 26; refine HW1.out.mono ?_; rintro e w1 ⟨rfl, hb1⟩; have hB1 := hz.trans (hb1.mono hz.size); have y4 := x4.on hb1; obtain ⟨p4, p4'⟩ := y4.cells; obtain ⟨f4, f4'⟩ := y4.free)
 obtain ⟨k4, k4'⟩ := (y4.put (.bool false) (.slice none 0 0)).cells
 exact bodyPost_ret (v := .tuple #[.agg #[.bool false, .slice none 0 0], .int .i64 2]) (by simp [results, Try.results16, go_sem, k4, k4']) rfl ⟨rfl, Below.put hB1 (Nat.le_refl _) _ _⟩
theorem join_sum_ok (B : Nat) (s : Value) (s' : Value) (a b z : Int) (w : World) (hr : Row2 w B (decide (a < 0)) s (decide (b < 0)) s') (h : Lim w s (dig a.natAbs)) (g : Lim w s' (dig b.natAbs)) (hv : (vld (decide (a < 0)) (dig a.natAbs) && vld (decide (b < 0)) (dig b.natAbs)) = true)
  (hlen : (dig z.natAbs).length ≤ 1024) (hop : ∀ va vb W, Num W va a → Num W vb b → Calls Try.prog 17 #[va, vb] W fun e w' => (∃ v, e = .returned v ∧ NumF W.heap.size w' v z) ∧ Below W.heap.size W w') :
  Calls Try.prog 16 #[.func (.func 17) #[] #[], .slice (some ⟨B, 0, none⟩) 2 2] w fun e w' => (∃ v, e = .returned (.tuple #[v, .int .i64 0]) ∧ NumF w.heap.size w' v z) ∧ Below w.heap.size w w' := by
 have hz := (Below.refl w.heap.size w).alloc (Nat.le_refl _) (.cells #[.bool false, .slice none 0 0] 26)
 have x4 := Bx.new w (.bool false) (.slice none 0 0)
 have hr1 := hr.on ((Below.refl w.heap.size w).alloc (Nat.le_refl _) (.cells #[.bool false, .slice none 0 0] 26))
 obtain ⟨c0, c1, c2, c3⟩ := id hr1
 have hw1 := allValid_two B _ s _ _ s' _ _ c0 c1 c2 c3 (h.below hz (Nat.le_refl _)) (g.below hz (Nat.le_refl _))
 rw [hv] at hw1
 have HW1 := Lib.hid hw1
 clear hw1 c0 c1 c2 c3 hr hv
 have hw2 := fun W (hW : Below w.heap.size w W) => hop (.agg #[.bool (decide (a < 0)), s]) (.agg #[.bool (decide (b < 0)), s']) W ⟨s, rfl, h.below hW (Nat.le_refl _)⟩ ⟨s', rfl, g.below hW (Nat.le_refl _)⟩
 have HW2 := Lib.hid hw2
 clear hw2 hop
 obtain ⟨aa, ca, rfl⟩ := lim_slice h
 obtain ⟨ab, cb, rfl⟩ := lim_slice g
 obtain ⟨na, hna⟩ : ∃ n, n = decide (a < 0) := ⟨_, rfl⟩
 obtain ⟨nb, hnb⟩ : ∃ n, n = decide (b < 0) := ⟨_, rfl⟩
 obtain ⟨ja, hja⟩ : ∃ n, n = (dig a.natAbs).length := ⟨_, rfl⟩
 obtain ⟨jb, hjb⟩ : ∃ n, n = (dig b.natAbs).length := ⟨_, rfl⟩
 rw [← hna, ← hnb, ← hja, ← hjb] at hr1 HW2
 clear h g hna hnb hja hjb
 go_enter Try.func16, Try.ntmps16
 go_wp2_with (go_at_call 26; refine HW1.out.mono ?_; rintro e w1 ⟨rfl, hb1⟩; have hB1 := hz.trans (hb1.mono hz.size); have hr2 := hr1.on hb1; obtain ⟨c0, c1, c2, c3⟩ := hr2; have hBlt := lt_of_cell c0; have y4 := x4.on hb1; have hlt4 := y4.lt)
 refine wp_loop_rounds 2 ?_
 rw [rounds_succ]
 go_wp2_with (go_at_call 17; refine (HW2.out _ ((hB1.alloc hB1.size _).alloc (by simp; have := hB1.size; omega) _)).mono ?_; rintro e w2 ⟨⟨v, rfl, ⟨s2, rfl, hl⟩⟩, hb2⟩; obtain ⟨a3, c3, rfl⟩ := lf_slice hl; have z6 := ((Bx.new w1 (.bool na) (.slice aa ja ca)).alloc (.cells #[.bool nb, .slice ab jb cb] 26)).on hb2; have z4 := ((y4.alloc (.cells #[.bool na, .slice aa ja ca] 26)).alloc (.cells #[.bool nb, .slice ab jb cb] 26)).on hb2; obtain ⟨p6, p6'⟩ := z6.cells; obtain ⟨f6, f6'⟩ := z6.free; obtain ⟨p4, p4'⟩ := z4.cells; obtain ⟨f4, f4'⟩ := z4.free; have ne1 : w1.heap.size ≠ w.heap.size := (by omega))
 rw [rounds_succ]
 go_wp2
 have k4 := ((z4.put_other (.bool (decide (z < 0))) (.slice a3 (dig z.natAbs).length c3) ne1).put (.bool (decide (z < 0))) (.slice a3 (dig z.natAbs).length c3)).cells
 have hs2 : w.heap.size ≤ ((w1.alloc (.cells #[.bool na, .slice aa ja ca] 26)).alloc (.cells #[.bool nb, .slice ab jb cb] 26)).heap.size := by simp; omega
 have hB2 := ((hB1.alloc hB1.size (.cells #[.bool na, .slice aa ja ca] 26)).alloc (by simp <;> omega) (.cells #[.bool nb, .slice ab jb cb] 26)).trans (hb2.mono hs2)
 have hl3 := ((hl.put (B' := w1.heap.size) (by simp <;> omega) (.bool (decide (z < 0))) (.slice a3 (dig z.natAbs).length c3)).put (B' := w.heap.size) (by simp <;> omega) (.bool (decide (z < 0))) (.slice a3 (dig z.natAbs).length c3)).mono hs2
 exact bodyPost_ret (v := .tuple #[.agg #[.bool (decide (z < 0)), .slice a3 (dig z.natAbs).length c3], .int .i64 0]) (by simp [results, Try.results16, go_sem, k4.1, k4.2]) rfl ⟨⟨_, rfl, _, rfl, hl3⟩, Below.put (Below.put hB2 (by omega) _ _) (Nat.le_refl _) _ _⟩
theorem join_sum_long (B : Nat) (s : Value) (s' : Value) (a b z : Int) (w : World) (hr : Row2 w B (decide (a < 0)) s (decide (b < 0)) s') (h : Lim w s (dig a.natAbs)) (g : Lim w s' (dig b.natAbs)) (hv : (vld (decide (a < 0)) (dig a.natAbs) && vld (decide (b < 0)) (dig b.natAbs)) = true)
  (hlen : 1024 < (dig z.natAbs).length) (hop : ∀ va vb W, Num W va a → Num W vb b → Calls Try.prog 17 #[va, vb] W fun e w' => (∃ v, e = .returned v ∧ NumF W.heap.size w' v z) ∧ Below W.heap.size W w') :
  Calls Try.prog 16 #[.func (.func 17) #[] #[], .slice (some ⟨B, 0, none⟩) 2 2] w fun e w' => e = .returned (.tuple #[.agg #[.bool false, .slice none 0 0], .int .i64 3]) ∧ Below w.heap.size w w' := by
 have hz := (Below.refl w.heap.size w).alloc (Nat.le_refl _) (.cells #[.bool false, .slice none 0 0] 26)
 have x4 := Bx.new w (.bool false) (.slice none 0 0)
 have hr1 := hr.on ((Below.refl w.heap.size w).alloc (Nat.le_refl _) (.cells #[.bool false, .slice none 0 0] 26))
 obtain ⟨c0, c1, c2, c3⟩ := id hr1
 have hw1 := allValid_two B _ s _ _ s' _ _ c0 c1 c2 c3 (h.below hz (Nat.le_refl _)) (g.below hz (Nat.le_refl _))
 rw [hv] at hw1
 have HW1 := Lib.hid hw1
 clear hw1 c0 c1 c2 c3 hr hv
 have hw2 := fun W (hW : Below w.heap.size w W) => hop (.agg #[.bool (decide (a < 0)), s]) (.agg #[.bool (decide (b < 0)), s']) W ⟨s, rfl, h.below hW (Nat.le_refl _)⟩ ⟨s', rfl, g.below hW (Nat.le_refl _)⟩
 have HW2 := Lib.hid hw2
 clear hw2 hop
 obtain ⟨aa, ca, rfl⟩ := lim_slice h
 obtain ⟨ab, cb, rfl⟩ := lim_slice g
 obtain ⟨na, hna⟩ : ∃ n, n = decide (a < 0) := ⟨_, rfl⟩
 obtain ⟨nb, hnb⟩ : ∃ n, n = decide (b < 0) := ⟨_, rfl⟩
 obtain ⟨ja, hja⟩ : ∃ n, n = (dig a.natAbs).length := ⟨_, rfl⟩
 obtain ⟨jb, hjb⟩ : ∃ n, n = (dig b.natAbs).length := ⟨_, rfl⟩
 rw [← hna, ← hnb, ← hja, ← hjb] at hr1 HW2
 clear h g hna hnb hja hjb
 go_enter Try.func16, Try.ntmps16
 go_wp2_with (go_at_call 26; refine HW1.out.mono ?_; rintro e w1 ⟨rfl, hb1⟩; have hB1 := hz.trans (hb1.mono hz.size); have hr2 := hr1.on hb1; obtain ⟨c0, c1, c2, c3⟩ := hr2; have hBlt := lt_of_cell c0; have y4 := x4.on hb1; have hlt4 := y4.lt)
 refine wp_loop_rounds 2 ?_
 rw [rounds_succ]
 go_wp2_with (go_at_call 17; refine (HW2.out _ ((hB1.alloc hB1.size _).alloc (by simp; have := hB1.size; omega) _)).mono ?_; rintro e w2 ⟨⟨v, rfl, ⟨s2, rfl, hl⟩⟩, hb2⟩; obtain ⟨a3, c3, rfl⟩ := lf_slice hl; have z6 := ((Bx.new w1 (.bool na) (.slice aa ja ca)).alloc (.cells #[.bool nb, .slice ab jb cb] 26)).on hb2; have z4 := ((y4.alloc (.cells #[.bool na, .slice aa ja ca] 26)).alloc (.cells #[.bool nb, .slice ab jb cb] 26)).on hb2; obtain ⟨p6, p6'⟩ := z6.cells; obtain ⟨f6, f6'⟩ := z6.free; obtain ⟨p4, p4'⟩ := z4.cells; obtain ⟨f4, f4'⟩ := z4.free; have ne1 : w1.heap.size ≠ w.heap.size := (by omega))
 rw [rounds_succ]
 go_wp2
 have k4 := ((z4.put_other (.bool (decide (z < 0))) (.slice a3 (dig z.natAbs).length c3) ne1).put (.bool false) (.slice none 0 0)).cells
 have hs2 : w.heap.size ≤ ((w1.alloc (.cells #[.bool na, .slice aa ja ca] 26)).alloc (.cells #[.bool nb, .slice ab jb cb] 26)).heap.size := by simp; omega
 have hB2 := ((hB1.alloc hB1.size (.cells #[.bool na, .slice aa ja ca] 26)).alloc (by simp <;> omega) (.cells #[.bool nb, .slice ab jb cb] 26)).trans (hb2.mono hs2)
 exact bodyPost_ret (v := .tuple #[.agg #[.bool false, .slice none 0 0], .int .i64 3]) (by simp [results, Try.results16, go_sem, k4.1, k4.2]) rfl ⟨rfl, Below.put (Below.put hB2 (by omega) _ _) (Nat.le_refl _) _ _⟩
theorem join_difference_ok (B : Nat) (s : Value) (s' : Value) (a b z : Int) (w : World) (hr : Row2 w B (decide (a < 0)) s (decide (b < 0)) s') (h : Lim w s (dig a.natAbs)) (g : Lim w s' (dig b.natAbs)) (hv : (vld (decide (a < 0)) (dig a.natAbs) && vld (decide (b < 0)) (dig b.natAbs)) = true)
  (hlen : (dig z.natAbs).length ≤ 1024) (hop : ∀ va vb W, Num W va a → Num W vb b → Calls Try.prog 18 #[va, vb] W fun e w' => (∃ v, e = .returned v ∧ NumF W.heap.size w' v z) ∧ Below W.heap.size W w') :
  Calls Try.prog 16 #[.func (.func 18) #[] #[], .slice (some ⟨B, 0, none⟩) 2 2] w fun e w' => (∃ v, e = .returned (.tuple #[v, .int .i64 0]) ∧ NumF w.heap.size w' v z) ∧ Below w.heap.size w w' := by
 have hz := (Below.refl w.heap.size w).alloc (Nat.le_refl _) (.cells #[.bool false, .slice none 0 0] 26)
 have x4 := Bx.new w (.bool false) (.slice none 0 0)
 have hr1 := hr.on ((Below.refl w.heap.size w).alloc (Nat.le_refl _) (.cells #[.bool false, .slice none 0 0] 26))
 obtain ⟨c0, c1, c2, c3⟩ := id hr1
 have hw1 := allValid_two B _ s _ _ s' _ _ c0 c1 c2 c3 (h.below hz (Nat.le_refl _)) (g.below hz (Nat.le_refl _))
 rw [hv] at hw1
 have HW1 := Lib.hid hw1
 clear hw1 c0 c1 c2 c3 hr hv
 have hw2 := fun W (hW : Below w.heap.size w W) => hop (.agg #[.bool (decide (a < 0)), s]) (.agg #[.bool (decide (b < 0)), s']) W ⟨s, rfl, h.below hW (Nat.le_refl _)⟩ ⟨s', rfl, g.below hW (Nat.le_refl _)⟩
 have HW2 := Lib.hid hw2
 clear hw2 hop
 obtain ⟨aa, ca, rfl⟩ := lim_slice h
 obtain ⟨ab, cb, rfl⟩ := lim_slice g
 obtain ⟨na, hna⟩ : ∃ n, n = decide (a < 0) := ⟨_, rfl⟩
 obtain ⟨nb, hnb⟩ : ∃ n, n = decide (b < 0) := ⟨_, rfl⟩
 obtain ⟨ja, hja⟩ : ∃ n, n = (dig a.natAbs).length := ⟨_, rfl⟩
 obtain ⟨jb, hjb⟩ : ∃ n, n = (dig b.natAbs).length := ⟨_, rfl⟩
 rw [← hna, ← hnb, ← hja, ← hjb] at hr1 HW2
 clear h g hna hnb hja hjb
 go_enter Try.func16, Try.ntmps16
 go_wp2_with (go_at_call 26; refine HW1.out.mono ?_; rintro e w1 ⟨rfl, hb1⟩; have hB1 := hz.trans (hb1.mono hz.size); have hr2 := hr1.on hb1; obtain ⟨c0, c1, c2, c3⟩ := hr2; have hBlt := lt_of_cell c0; have y4 := x4.on hb1; have hlt4 := y4.lt)
 refine wp_loop_rounds 2 ?_
 rw [rounds_succ]
 go_wp2_with (go_at_call 18; refine (HW2.out _ ((hB1.alloc hB1.size _).alloc (by simp; have := hB1.size; omega) _)).mono ?_; rintro e w2 ⟨⟨v, rfl, ⟨s2, rfl, hl⟩⟩, hb2⟩; obtain ⟨a3, c3, rfl⟩ := lf_slice hl; have z6 := ((Bx.new w1 (.bool na) (.slice aa ja ca)).alloc (.cells #[.bool nb, .slice ab jb cb] 26)).on hb2; have z4 := ((y4.alloc (.cells #[.bool na, .slice aa ja ca] 26)).alloc (.cells #[.bool nb, .slice ab jb cb] 26)).on hb2; obtain ⟨p6, p6'⟩ := z6.cells; obtain ⟨f6, f6'⟩ := z6.free; obtain ⟨p4, p4'⟩ := z4.cells; obtain ⟨f4, f4'⟩ := z4.free; have ne1 : w1.heap.size ≠ w.heap.size := (by omega))
 rw [rounds_succ]
 go_wp2
 have k4 := ((z4.put_other (.bool (decide (z < 0))) (.slice a3 (dig z.natAbs).length c3) ne1).put (.bool (decide (z < 0))) (.slice a3 (dig z.natAbs).length c3)).cells
 have hs2 : w.heap.size ≤ ((w1.alloc (.cells #[.bool na, .slice aa ja ca] 26)).alloc (.cells #[.bool nb, .slice ab jb cb] 26)).heap.size := by simp; omega
 have hB2 := ((hB1.alloc hB1.size (.cells #[.bool na, .slice aa ja ca] 26)).alloc (by simp <;> omega) (.cells #[.bool nb, .slice ab jb cb] 26)).trans (hb2.mono hs2)
 have hl3 := ((hl.put (B' := w1.heap.size) (by simp <;> omega) (.bool (decide (z < 0))) (.slice a3 (dig z.natAbs).length c3)).put (B' := w.heap.size) (by simp <;> omega) (.bool (decide (z < 0))) (.slice a3 (dig z.natAbs).length c3)).mono hs2
 exact bodyPost_ret (v := .tuple #[.agg #[.bool (decide (z < 0)), .slice a3 (dig z.natAbs).length c3], .int .i64 0]) (by simp [results, Try.results16, go_sem, k4.1, k4.2]) rfl ⟨⟨_, rfl, _, rfl, hl3⟩, Below.put (Below.put hB2 (by omega) _ _) (Nat.le_refl _) _ _⟩
theorem join_difference_long (B : Nat) (s : Value) (s' : Value) (a b z : Int) (w : World) (hr : Row2 w B (decide (a < 0)) s (decide (b < 0)) s') (h : Lim w s (dig a.natAbs)) (g : Lim w s' (dig b.natAbs)) (hv : (vld (decide (a < 0)) (dig a.natAbs) && vld (decide (b < 0)) (dig b.natAbs)) = true)
  (hlen : 1024 < (dig z.natAbs).length) (hop : ∀ va vb W, Num W va a → Num W vb b → Calls Try.prog 18 #[va, vb] W fun e w' => (∃ v, e = .returned v ∧ NumF W.heap.size w' v z) ∧ Below W.heap.size W w') :
  Calls Try.prog 16 #[.func (.func 18) #[] #[], .slice (some ⟨B, 0, none⟩) 2 2] w fun e w' => e = .returned (.tuple #[.agg #[.bool false, .slice none 0 0], .int .i64 3]) ∧ Below w.heap.size w w' := by
 have hz := (Below.refl w.heap.size w).alloc (Nat.le_refl _) (.cells #[.bool false, .slice none 0 0] 26)
 have x4 := Bx.new w (.bool false) (.slice none 0 0)
 have hr1 := hr.on ((Below.refl w.heap.size w).alloc (Nat.le_refl _) (.cells #[.bool false, .slice none 0 0] 26))
 obtain ⟨c0, c1, c2, c3⟩ := id hr1
 have hw1 := allValid_two B _ s _ _ s' _ _ c0 c1 c2 c3 (h.below hz (Nat.le_refl _)) (g.below hz (Nat.le_refl _))
 rw [hv] at hw1
 have HW1 := Lib.hid hw1
 clear hw1 c0 c1 c2 c3 hr hv
 have hw2 := fun W (hW : Below w.heap.size w W) => hop (.agg #[.bool (decide (a < 0)), s]) (.agg #[.bool (decide (b < 0)), s']) W ⟨s, rfl, h.below hW (Nat.le_refl _)⟩ ⟨s', rfl, g.below hW (Nat.le_refl _)⟩
 have HW2 := Lib.hid hw2
 clear hw2 hop
 obtain ⟨aa, ca, rfl⟩ := lim_slice h
 obtain ⟨ab, cb, rfl⟩ := lim_slice g
 obtain ⟨na, hna⟩ : ∃ n, n = decide (a < 0) := ⟨_, rfl⟩
 obtain ⟨nb, hnb⟩ : ∃ n, n = decide (b < 0) := ⟨_, rfl⟩
 obtain ⟨ja, hja⟩ : ∃ n, n = (dig a.natAbs).length := ⟨_, rfl⟩
 obtain ⟨jb, hjb⟩ : ∃ n, n = (dig b.natAbs).length := ⟨_, rfl⟩
 rw [← hna, ← hnb, ← hja, ← hjb] at hr1 HW2
 clear h g hna hnb hja hjb
 go_enter Try.func16, Try.ntmps16
 go_wp2_with (go_at_call 26; refine HW1.out.mono ?_; rintro e w1 ⟨rfl, hb1⟩; have hB1 := hz.trans (hb1.mono hz.size); have hr2 := hr1.on hb1; obtain ⟨c0, c1, c2, c3⟩ := hr2; have hBlt := lt_of_cell c0; have y4 := x4.on hb1; have hlt4 := y4.lt)
 refine wp_loop_rounds 2 ?_
 rw [rounds_succ]
 go_wp2_with (go_at_call 18; refine (HW2.out _ ((hB1.alloc hB1.size _).alloc (by simp; have := hB1.size; omega) _)).mono ?_; rintro e w2 ⟨⟨v, rfl, ⟨s2, rfl, hl⟩⟩, hb2⟩; obtain ⟨a3, c3, rfl⟩ := lf_slice hl; have z6 := ((Bx.new w1 (.bool na) (.slice aa ja ca)).alloc (.cells #[.bool nb, .slice ab jb cb] 26)).on hb2; have z4 := ((y4.alloc (.cells #[.bool na, .slice aa ja ca] 26)).alloc (.cells #[.bool nb, .slice ab jb cb] 26)).on hb2; obtain ⟨p6, p6'⟩ := z6.cells; obtain ⟨f6, f6'⟩ := z6.free; obtain ⟨p4, p4'⟩ := z4.cells; obtain ⟨f4, f4'⟩ := z4.free; have ne1 : w1.heap.size ≠ w.heap.size := (by omega))
 rw [rounds_succ]
 go_wp2
 have k4 := ((z4.put_other (.bool (decide (z < 0))) (.slice a3 (dig z.natAbs).length c3) ne1).put (.bool false) (.slice none 0 0)).cells
 have hs2 : w.heap.size ≤ ((w1.alloc (.cells #[.bool na, .slice aa ja ca] 26)).alloc (.cells #[.bool nb, .slice ab jb cb] 26)).heap.size := by simp; omega
 have hB2 := ((hB1.alloc hB1.size (.cells #[.bool na, .slice aa ja ca] 26)).alloc (by simp <;> omega) (.cells #[.bool nb, .slice ab jb cb] 26)).trans (hb2.mono hs2)
 exact bodyPost_ret (v := .tuple #[.agg #[.bool false, .slice none 0 0], .int .i64 3]) (by simp [results, Try.results16, go_sem, k4.1, k4.2]) rfl ⟨rfl, Below.put (Below.put hB2 (by omega) _ _) (Nat.le_refl _) _ _⟩
theorem join_product_ok (B : Nat) (s : Value) (s' : Value) (a b z : Int) (w : World) (hr : Row2 w B (decide (a < 0)) s (decide (b < 0)) s') (h : Lim w s (dig a.natAbs)) (g : Lim w s' (dig b.natAbs)) (hv : (vld (decide (a < 0)) (dig a.natAbs) && vld (decide (b < 0)) (dig b.natAbs)) = true)
  (hlen : (dig z.natAbs).length ≤ 1024) (hop : ∀ va vb W, Num W va a → Num W vb b → Calls Try.prog 19 #[va, vb] W fun e w' => (∃ v, e = .returned v ∧ NumF W.heap.size w' v z) ∧ Below W.heap.size W w') :
  Calls Try.prog 16 #[.func (.func 19) #[] #[], .slice (some ⟨B, 0, none⟩) 2 2] w fun e w' => (∃ v, e = .returned (.tuple #[v, .int .i64 0]) ∧ NumF w.heap.size w' v z) ∧ Below w.heap.size w w' := by
 have hz := (Below.refl w.heap.size w).alloc (Nat.le_refl _) (.cells #[.bool false, .slice none 0 0] 26)
 have x4 := Bx.new w (.bool false) (.slice none 0 0)
 have hr1 := hr.on ((Below.refl w.heap.size w).alloc (Nat.le_refl _) (.cells #[.bool false, .slice none 0 0] 26))
 obtain ⟨c0, c1, c2, c3⟩ := id hr1
 have hw1 := allValid_two B _ s _ _ s' _ _ c0 c1 c2 c3 (h.below hz (Nat.le_refl _)) (g.below hz (Nat.le_refl _))
 rw [hv] at hw1
 have HW1 := Lib.hid hw1
 clear hw1 c0 c1 c2 c3 hr hv
 have hw2 := fun W (hW : Below w.heap.size w W) => hop (.agg #[.bool (decide (a < 0)), s]) (.agg #[.bool (decide (b < 0)), s']) W ⟨s, rfl, h.below hW (Nat.le_refl _)⟩ ⟨s', rfl, g.below hW (Nat.le_refl _)⟩
 have HW2 := Lib.hid hw2
 clear hw2 hop
 obtain ⟨aa, ca, rfl⟩ := lim_slice h
 obtain ⟨ab, cb, rfl⟩ := lim_slice g
 obtain ⟨na, hna⟩ : ∃ n, n = decide (a < 0) := ⟨_, rfl⟩
 obtain ⟨nb, hnb⟩ : ∃ n, n = decide (b < 0) := ⟨_, rfl⟩
 obtain ⟨ja, hja⟩ : ∃ n, n = (dig a.natAbs).length := ⟨_, rfl⟩
 obtain ⟨jb, hjb⟩ : ∃ n, n = (dig b.natAbs).length := ⟨_, rfl⟩
 rw [← hna, ← hnb, ← hja, ← hjb] at hr1 HW2
 clear h g hna hnb hja hjb
 go_enter Try.func16, Try.ntmps16
 go_wp2_with (go_at_call 26; refine HW1.out.mono ?_; rintro e w1 ⟨rfl, hb1⟩; have hB1 := hz.trans (hb1.mono hz.size); have hr2 := hr1.on hb1; obtain ⟨c0, c1, c2, c3⟩ := hr2; have hBlt := lt_of_cell c0; have y4 := x4.on hb1; have hlt4 := y4.lt)
 refine wp_loop_rounds 2 ?_
 rw [rounds_succ]
 go_wp2_with (go_at_call 19; refine (HW2.out _ ((hB1.alloc hB1.size _).alloc (by simp; have := hB1.size; omega) _)).mono ?_; rintro e w2 ⟨⟨v, rfl, ⟨s2, rfl, hl⟩⟩, hb2⟩; obtain ⟨a3, c3, rfl⟩ := lf_slice hl; have z6 := ((Bx.new w1 (.bool na) (.slice aa ja ca)).alloc (.cells #[.bool nb, .slice ab jb cb] 26)).on hb2; have z4 := ((y4.alloc (.cells #[.bool na, .slice aa ja ca] 26)).alloc (.cells #[.bool nb, .slice ab jb cb] 26)).on hb2; obtain ⟨p6, p6'⟩ := z6.cells; obtain ⟨f6, f6'⟩ := z6.free; obtain ⟨p4, p4'⟩ := z4.cells; obtain ⟨f4, f4'⟩ := z4.free; have ne1 : w1.heap.size ≠ w.heap.size := (by omega))
 rw [rounds_succ]
 go_wp2
 have k4 := ((z4.put_other (.bool (decide (z < 0))) (.slice a3 (dig z.natAbs).length c3) ne1).put (.bool (decide (z < 0))) (.slice a3 (dig z.natAbs).length c3)).cells
 have hs2 : w.heap.size ≤ ((w1.alloc (.cells #[.bool na, .slice aa ja ca] 26)).alloc (.cells #[.bool nb, .slice ab jb cb] 26)).heap.size := by simp; omega
 have hB2 := ((hB1.alloc hB1.size (.cells #[.bool na, .slice aa ja ca] 26)).alloc (by simp <;> omega) (.cells #[.bool nb, .slice ab jb cb] 26)).trans (hb2.mono hs2)
 have hl3 := ((hl.put (B' := w1.heap.size) (by simp <;> omega) (.bool (decide (z < 0))) (.slice a3 (dig z.natAbs).length c3)).put (B' := w.heap.size) (by simp <;> omega) (.bool (decide (z < 0))) (.slice a3 (dig z.natAbs).length c3)).mono hs2
 exact bodyPost_ret (v := .tuple #[.agg #[.bool (decide (z < 0)), .slice a3 (dig z.natAbs).length c3], .int .i64 0]) (by simp [results, Try.results16, go_sem, k4.1, k4.2]) rfl ⟨⟨_, rfl, _, rfl, hl3⟩, Below.put (Below.put hB2 (by omega) _ _) (Nat.le_refl _) _ _⟩
theorem join_product_long (B : Nat) (s : Value) (s' : Value) (a b z : Int) (w : World) (hr : Row2 w B (decide (a < 0)) s (decide (b < 0)) s') (h : Lim w s (dig a.natAbs)) (g : Lim w s' (dig b.natAbs)) (hv : (vld (decide (a < 0)) (dig a.natAbs) && vld (decide (b < 0)) (dig b.natAbs)) = true)
  (hlen : 1024 < (dig z.natAbs).length) (hop : ∀ va vb W, Num W va a → Num W vb b → Calls Try.prog 19 #[va, vb] W fun e w' => (∃ v, e = .returned v ∧ NumF W.heap.size w' v z) ∧ Below W.heap.size W w') :
  Calls Try.prog 16 #[.func (.func 19) #[] #[], .slice (some ⟨B, 0, none⟩) 2 2] w fun e w' => e = .returned (.tuple #[.agg #[.bool false, .slice none 0 0], .int .i64 3]) ∧ Below w.heap.size w w' := by
 have hz := (Below.refl w.heap.size w).alloc (Nat.le_refl _) (.cells #[.bool false, .slice none 0 0] 26)
 have x4 := Bx.new w (.bool false) (.slice none 0 0)
 have hr1 := hr.on ((Below.refl w.heap.size w).alloc (Nat.le_refl _) (.cells #[.bool false, .slice none 0 0] 26))
 obtain ⟨c0, c1, c2, c3⟩ := id hr1
 have hw1 := allValid_two B _ s _ _ s' _ _ c0 c1 c2 c3 (h.below hz (Nat.le_refl _)) (g.below hz (Nat.le_refl _))
 rw [hv] at hw1
 have HW1 := Lib.hid hw1
 clear hw1 c0 c1 c2 c3 hr hv
 have hw2 := fun W (hW : Below w.heap.size w W) => hop (.agg #[.bool (decide (a < 0)), s]) (.agg #[.bool (decide (b < 0)), s']) W ⟨s, rfl, h.below hW (Nat.le_refl _)⟩ ⟨s', rfl, g.below hW (Nat.le_refl _)⟩
 have HW2 := Lib.hid hw2
 clear hw2 hop
 obtain ⟨aa, ca, rfl⟩ := lim_slice h
 obtain ⟨ab, cb, rfl⟩ := lim_slice g
 obtain ⟨na, hna⟩ : ∃ n, n = decide (a < 0) := ⟨_, rfl⟩
 obtain ⟨nb, hnb⟩ : ∃ n, n = decide (b < 0) := ⟨_, rfl⟩
 obtain ⟨ja, hja⟩ : ∃ n, n = (dig a.natAbs).length := ⟨_, rfl⟩
 obtain ⟨jb, hjb⟩ : ∃ n, n = (dig b.natAbs).length := ⟨_, rfl⟩
 rw [← hna, ← hnb, ← hja, ← hjb] at hr1 HW2
 clear h g hna hnb hja hjb
 go_enter Try.func16, Try.ntmps16
 go_wp2_with (go_at_call 26; refine HW1.out.mono ?_; rintro e w1 ⟨rfl, hb1⟩; have hB1 := hz.trans (hb1.mono hz.size); have hr2 := hr1.on hb1; obtain ⟨c0, c1, c2, c3⟩ := hr2; have hBlt := lt_of_cell c0; have y4 := x4.on hb1; have hlt4 := y4.lt)
 refine wp_loop_rounds 2 ?_
 rw [rounds_succ]
 go_wp2_with (go_at_call 19; refine (HW2.out _ ((hB1.alloc hB1.size _).alloc (by simp; have := hB1.size; omega) _)).mono ?_; rintro e w2 ⟨⟨v, rfl, ⟨s2, rfl, hl⟩⟩, hb2⟩; obtain ⟨a3, c3, rfl⟩ := lf_slice hl; have z6 := ((Bx.new w1 (.bool na) (.slice aa ja ca)).alloc (.cells #[.bool nb, .slice ab jb cb] 26)).on hb2; have z4 := ((y4.alloc (.cells #[.bool na, .slice aa ja ca] 26)).alloc (.cells #[.bool nb, .slice ab jb cb] 26)).on hb2; obtain ⟨p6, p6'⟩ := z6.cells; obtain ⟨f6, f6'⟩ := z6.free; obtain ⟨p4, p4'⟩ := z4.cells; obtain ⟨f4, f4'⟩ := z4.free; have ne1 : w1.heap.size ≠ w.heap.size := (by omega))
 rw [rounds_succ]
 go_wp2
 have k4 := ((z4.put_other (.bool (decide (z < 0))) (.slice a3 (dig z.natAbs).length c3) ne1).put (.bool false) (.slice none 0 0)).cells
 have hs2 : w.heap.size ≤ ((w1.alloc (.cells #[.bool na, .slice aa ja ca] 26)).alloc (.cells #[.bool nb, .slice ab jb cb] 26)).heap.size := by simp; omega
 have hB2 := ((hB1.alloc hB1.size (.cells #[.bool na, .slice aa ja ca] 26)).alloc (by simp <;> omega) (.cells #[.bool nb, .slice ab jb cb] 26)).trans (hb2.mono hs2)
 exact bodyPost_ret (v := .tuple #[.agg #[.bool false, .slice none 0 0], .int .i64 3]) (by simp [results, Try.results16, go_sem, k4.1, k4.2]) rfl ⟨rfl, Below.put (Below.put hB2 (by omega) _ _) (Nat.le_refl _) _ _⟩
theorem join_divisor_ok (B : Nat) (s : Value) (s' : Value) (a b z : Int) (w : World) (hr : Row2 w B (decide (a < 0)) s (decide (b < 0)) s') (h : Lim w s (dig a.natAbs)) (g : Lim w s' (dig b.natAbs)) (hv : (vld (decide (a < 0)) (dig a.natAbs) && vld (decide (b < 0)) (dig b.natAbs)) = true)
  (hlen : (dig z.natAbs).length ≤ 1024) (hop : ∀ va vb W, Num W va a → Num W vb b → Calls Try.prog 47 #[va, vb] W fun e w' => (∃ v, e = .returned v ∧ NumF W.heap.size w' v z) ∧ Below W.heap.size W w') :
  Calls Try.prog 16 #[.func (.func 47) #[] #[], .slice (some ⟨B, 0, none⟩) 2 2] w fun e w' => (∃ v, e = .returned (.tuple #[v, .int .i64 0]) ∧ NumF w.heap.size w' v z) ∧ Below w.heap.size w w' := by
 have hz := (Below.refl w.heap.size w).alloc (Nat.le_refl _) (.cells #[.bool false, .slice none 0 0] 26)
 have x4 := Bx.new w (.bool false) (.slice none 0 0)
 have hr1 := hr.on ((Below.refl w.heap.size w).alloc (Nat.le_refl _) (.cells #[.bool false, .slice none 0 0] 26))
 obtain ⟨c0, c1, c2, c3⟩ := id hr1
 have hw1 := allValid_two B _ s _ _ s' _ _ c0 c1 c2 c3 (h.below hz (Nat.le_refl _)) (g.below hz (Nat.le_refl _))
 rw [hv] at hw1
 have HW1 := Lib.hid hw1
 clear hw1 c0 c1 c2 c3 hr hv
 have hw2 := fun W (hW : Below w.heap.size w W) => hop (.agg #[.bool (decide (a < 0)), s]) (.agg #[.bool (decide (b < 0)), s']) W ⟨s, rfl, h.below hW (Nat.le_refl _)⟩ ⟨s', rfl, g.below hW (Nat.le_refl _)⟩
 have HW2 := Lib.hid hw2
 clear hw2 hop
 obtain ⟨aa, ca, rfl⟩ := lim_slice h
 obtain ⟨ab, cb, rfl⟩ := lim_slice g
 obtain ⟨na, hna⟩ : ∃ n, n = decide (a < 0) := ⟨_, rfl⟩
 obtain ⟨nb, hnb⟩ : ∃ n, n = decide (b < 0) := ⟨_, rfl⟩
 obtain ⟨ja, hja⟩ : ∃ n, n = (dig a.natAbs).length := ⟨_, rfl⟩
 obtain ⟨jb, hjb⟩ : ∃ n, n = (dig b.natAbs).length := ⟨_, rfl⟩
 rw [← hna, ← hnb, ← hja, ← hjb] at hr1 HW2
 clear h g hna hnb hja hjb
 go_enter Try.func16, Try.ntmps16
 go_wp2_with (go_at_call 26; refine HW1.out.mono ?_; rintro e w1 ⟨rfl, hb1⟩; have hB1 := hz.trans (hb1.mono hz.size); have hr2 := hr1.on hb1; obtain ⟨c0, c1, c2, c3⟩ := hr2; have hBlt := lt_of_cell c0; have y4 := x4.on hb1; have hlt4 := y4.lt)
 refine wp_loop_rounds 2 ?_
 rw [rounds_succ]
 go_wp2_with (go_at_call 47; refine (HW2.out _ ((hB1.alloc hB1.size _).alloc (by simp; have := hB1.size; omega) _)).mono ?_; rintro e w2 ⟨⟨v, rfl, ⟨s2, rfl, hl⟩⟩, hb2⟩; obtain ⟨a3, c3, rfl⟩ := lf_slice hl; have z6 := ((Bx.new w1 (.bool na) (.slice aa ja ca)).alloc (.cells #[.bool nb, .slice ab jb cb] 26)).on hb2; have z4 := ((y4.alloc (.cells #[.bool na, .slice aa ja ca] 26)).alloc (.cells #[.bool nb, .slice ab jb cb] 26)).on hb2; obtain ⟨p6, p6'⟩ := z6.cells; obtain ⟨f6, f6'⟩ := z6.free; obtain ⟨p4, p4'⟩ := z4.cells; obtain ⟨f4, f4'⟩ := z4.free; have ne1 : w1.heap.size ≠ w.heap.size := (by omega))
 rw [rounds_succ]
 go_wp2
 have k4 := ((z4.put_other (.bool (decide (z < 0))) (.slice a3 (dig z.natAbs).length c3) ne1).put (.bool (decide (z < 0))) (.slice a3 (dig z.natAbs).length c3)).cells
 have hs2 : w.heap.size ≤ ((w1.alloc (.cells #[.bool na, .slice aa ja ca] 26)).alloc (.cells #[.bool nb, .slice ab jb cb] 26)).heap.size := by simp; omega
 have hB2 := ((hB1.alloc hB1.size (.cells #[.bool na, .slice aa ja ca] 26)).alloc (by simp <;> omega) (.cells #[.bool nb, .slice ab jb cb] 26)).trans (hb2.mono hs2)
 have hl3 := ((hl.put (B' := w1.heap.size) (by simp <;> omega) (.bool (decide (z < 0))) (.slice a3 (dig z.natAbs).length c3)).put (B' := w.heap.size) (by simp <;> omega) (.bool (decide (z < 0))) (.slice a3 (dig z.natAbs).length c3)).mono hs2
 exact bodyPost_ret (v := .tuple #[.agg #[.bool (decide (z < 0)), .slice a3 (dig z.natAbs).length c3], .int .i64 0]) (by simp [results, Try.results16, go_sem, k4.1, k4.2]) rfl ⟨⟨_, rfl, _, rfl, hl3⟩, Below.put (Below.put hB2 (by omega) _ _) (Nat.le_refl _) _ _⟩
end Go.Proofs.Ytmbcnfogjncdaaa
