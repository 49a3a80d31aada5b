/- A part of the proofs about fractions. -/
import Derived.Outline
import Derived.Test.YtmbcnfogjncdaaaGreatQFl4
import Derived.Test.YtmbcnfogjncdaaaGreatQFl8
set_option maxRecDepth 100000
set_option maxHeartbeats 1000000
namespace Go.Proofs.YtmbcnfogjncdaaaGreat
open Go.RowKit Wh
theorem divisor_any (va vb : Value) (a b : Int) (ha : (dig a.natAbs).length ≤ 16384) (hb : (dig b.natAbs).length ≤ 16384) (w : World) (h : Num w va a) (g : Num w vb b) :
  Calls Tryz.prog 132 #[va, vb] w fun e w' => (∃ v, e = .returned v ∧ NumF w.heap.size w' v ((Nat.gcd a.natAbs b.natAbs : Nat) : Int)) ∧ Below w.heap.size w w' := by
 obtain ⟨sa, rfl, la⟩ := h
 obtain ⟨sb, rfl, lb⟩ := g
 have hw1 := fun W (hW : Below w.heap.size w W) => commonDivisor_any sa sb a.natAbs b.natAbs ha hb W (la.below hW (Nat.le_refl _)) (lb.below hW (Nat.le_refl _))
 have hw2 := fun W s (hl : Lim W s (dig (Nat.gcd a.natAbs b.natAbs))) => number_any false s _ W hl
 rw [Bool.false_and] at hw2
 have HW1 := Lib.hid hw1
 have HW2 := Lib.hid hw2
 obtain ⟨aa, ca, rfl⟩ := lim_slice la
 obtain ⟨ab, cb, rfl⟩ := lim_slice lb
 clear hw1 hw2 la lb ha hb
 have e0 : decide (((Nat.gcd a.natAbs b.natAbs : Nat) : Int) < 0) = false := by simp
 have e1 : (((Nat.gcd a.natAbs b.natAbs : Nat) : Int)).natAbs = Nat.gcd a.natAbs b.natAbs := Int.natAbs_natCast _
 unfold NumF
 rw [e0, e1]
 clear e0 e1
 obtain ⟨na, hna⟩ : ∃ n, n = decide (a < 0) := ⟨_, rfl⟩
 obtain ⟨nb, hnb⟩ : ∃ n, n = decide (b < 0) := ⟨_, rfl⟩
 obtain ⟨z, hzz⟩ : ∃ z, z = Nat.gcd a.natAbs b.natAbs := ⟨_, rfl⟩
 obtain ⟨ja, hja⟩ : ∃ n, n = (dig a.natAbs).length := ⟨_, rfl⟩
 obtain ⟨jb, hjb⟩ : ∃ n, n = (dig b.natAbs).length := ⟨_, rfl⟩
 rw [← hzz, ← hja, ← hjb] at HW1
 rw [← hzz] at HW2
 rw [← hna, ← hnb, ← hzz, ← hja, ← hjb]
 clear hna hnb hzz hja hjb
 have hz := (((Below.refl w.heap.size w).alloc (Nat.le_refl _) (.cells #[.bool na, .slice aa ja ca] 24)).alloc (by simp) (.cells #[.bool nb, .slice ab jb cb] 24)).alloc (by simp <;> omega) (.cells #[.bool false, .slice none 0 0] 24)
 have x4 := Bx.new ((w.alloc (.cells #[.bool na, .slice aa ja ca] 24)).alloc (.cells #[.bool nb, .slice ab jb cb] 24)) (.bool false) (.slice none 0 0)
 simp only [World.size_alloc] at x4
 go_enter Tryz.func132, Tryz.ntmps132
 go_wp2_with (first
  | (go_at_call 168; refine (HW1.out _ hz).mono ?_; rintro e w2 ⟨⟨s, rfl, hl⟩, hb2⟩; obtain ⟨a3, c3, rfl⟩ := lf_slice hl; have hB2 := hz.trans (hb2.mono hz.size); have z4 := x4.on hb2)
  | (go_at_call 58; refine (HW2.out _ _ hl.1).mono ?_; rintro e w3 ⟨rfl, hb3⟩; have hB3 := hB2.trans (hb3.mono hB2.size); have v4 := z4.on hb3; obtain ⟨p4, p4'⟩ := v4.cells; obtain ⟨f4, f4'⟩ := v4.free))
 have hl3 := ((hl.below hb3).put (B' := w.heap.size + 1 + 1) (by simp <;> omega) (.bool false) (.slice a3 (dig z).length c3)).mono hz.size
 obtain ⟨k4, k4'⟩ := (v4.put (.bool false) (.slice a3 (dig z).length c3)).cells
 exact bodyPost_ret (v := .agg #[.bool false, .slice a3 (dig z).length c3]) (by simp [results, Tryz.results132, go_sem, k4, k4']) rfl ⟨⟨_, rfl, _, rfl, hl3⟩, Below.put hB3 (by omega) _ _⟩
def Row2 (W : World) (B : Nat) (b : Bool) (s : Value) (b' : Bool) (s' : Value) : Prop := W.cell? ⟨B, 0, none⟩ = some (.bool b) ∧ W.cell? ⟨B, 1, none⟩ = some s ∧ W.cell? ⟨B, 2, none⟩ = some (.bool b') ∧ W.cell? ⟨B, 3, none⟩ = some s'
theorem Row2.on {W W' : World} {B b s b' s'} (h : Row2 W B b s b' s') (hb : Below W.heap.size W W') : Row2 W' B b s b' s' := by
 obtain ⟨h0, h1, h2, h3⟩ := h
 have hl := lt_of_cell h0
 exact ⟨(hb.cell (p := ⟨B, 0, none⟩) hl).trans h0, (hb.cell (p := ⟨B, 1, none⟩) hl).trans h1, (hb.cell (p := ⟨B, 2, none⟩) hl).trans h2, (hb.cell (p := ⟨B, 3, none⟩) hl).trans h3⟩
theorem join_sum_ok (B : Nat) (s : Value) (s' : Value) (a b z : Int) (w : World) (hr : Row2 w B (decide (a < 0)) s (decide (b < 0)) s') (h : Lim w s (dig a.natAbs)) (g : Lim w s' (dig b.natAbs)) (hv : (vld (decide (a < 0)) (dig a.natAbs) && vld (decide (b < 0)) (dig b.natAbs)) = true)
  (hlen : (dig z.natAbs).length ≤ 1024) (hop : ∀ va vb W, Num W va a → Num W vb b → Calls Tryz.prog 129 #[va, vb] W fun e w' => (∃ v, e = .returned v ∧ NumF W.heap.size w' v z) ∧ Below W.heap.size W w') :
  Calls Tryz.prog 128 #[.func (.func 129) #[] #[], .slice (some ⟨B, 0, none⟩) 2 2] w fun e w' => (∃ v, e = .returned (.tuple #[v, .int .i64 0]) ∧ NumF w.heap.size w' v z) ∧ Below w.heap.size w w' := by
 have hz := (Below.refl w.heap.size w).alloc (Nat.le_refl _) (.cells #[.bool false, .slice none 0 0] 24)
 have x4 := Bx.new w (.bool false) (.slice none 0 0)
 have hr1 := hr.on ((Below.refl w.heap.size w).alloc (Nat.le_refl _) (.cells #[.bool false, .slice none 0 0] 24))
 obtain ⟨c0, c1, c2, c3⟩ := id hr1
 have hw1 := allValid_two B _ s _ _ s' _ _ c0 c1 c2 c3 (h.below hz (Nat.le_refl _)) (g.below hz (Nat.le_refl _))
 rw [hv] at hw1
 have HW1 := Lib.hid hw1
 clear hw1 c0 c1 c2 c3 hr hv
 have hw2 := fun W (hW : Below w.heap.size w W) => hop (.agg #[.bool (decide (a < 0)), s]) (.agg #[.bool (decide (b < 0)), s']) W ⟨s, rfl, h.below hW (Nat.le_refl _)⟩ ⟨s', rfl, g.below hW (Nat.le_refl _)⟩
 have HW2 := Lib.hid hw2
 clear hw2 hop
 obtain ⟨aa, ca, rfl⟩ := lim_slice h
 obtain ⟨ab, cb, rfl⟩ := lim_slice g
 obtain ⟨na, hna⟩ : ∃ n, n = decide (a < 0) := ⟨_, rfl⟩
 obtain ⟨nb, hnb⟩ : ∃ n, n = decide (b < 0) := ⟨_, rfl⟩
 obtain ⟨ja, hja⟩ : ∃ n, n = (dig a.natAbs).length := ⟨_, rfl⟩
 obtain ⟨jb, hjb⟩ : ∃ n, n = (dig b.natAbs).length := ⟨_, rfl⟩
 rw [← hna, ← hnb, ← hja, ← hjb] at hr1 HW2
 clear h g hna hnb hja hjb
 go_enter Tryz.func128, Tryz.ntmps128
 go_wp2_with (go_at_call 52; refine HW1.out.mono ?_; rintro e w1 ⟨rfl, hb1⟩; have hB1 := hz.trans (hb1.mono hz.size); have hr2 := hr1.on hb1; obtain ⟨c0, c1, c2, c3⟩ := hr2; have hBlt := lt_of_cell c0; have y4 := x4.on hb1; have hlt4 := y4.lt)
 refine wp_loop_rounds 2 ?_
 rw [rounds_succ]
 go_wp2_with (go_at_call 129; refine (HW2.out _ ((hB1.alloc hB1.size _).alloc (by simp; have := hB1.size; omega) _)).mono ?_; rintro e w2 ⟨⟨v, rfl, ⟨s2, rfl, hl⟩⟩, hb2⟩; obtain ⟨a3, c3, rfl⟩ := lf_slice hl; have z6 := ((Bx.new w1 (.bool na) (.slice aa ja ca)).alloc (.cells #[.bool nb, .slice ab jb cb] 24)).on hb2; have z4 := ((y4.alloc (.cells #[.bool na, .slice aa ja ca] 24)).alloc (.cells #[.bool nb, .slice ab jb cb] 24)).on hb2; obtain ⟨p6, p6'⟩ := z6.cells; obtain ⟨f6, f6'⟩ := z6.free; obtain ⟨p4, p4'⟩ := z4.cells; obtain ⟨f4, f4'⟩ := z4.free; have ne1 : w1.heap.size ≠ w.heap.size := (by omega))
 rw [rounds_succ]
 go_wp2
 have k4 := ((z4.put_other (.bool (decide (z < 0))) (.slice a3 (dig z.natAbs).length c3) ne1).put (.bool (decide (z < 0))) (.slice a3 (dig z.natAbs).length c3)).cells
 have hs2 : w.heap.size ≤ ((w1.alloc (.cells #[.bool na, .slice aa ja ca] 24)).alloc (.cells #[.bool nb, .slice ab jb cb] 24)).heap.size := by simp; omega
 have hB2 := ((hB1.alloc hB1.size (.cells #[.bool na, .slice aa ja ca] 24)).alloc (by simp <;> omega) (.cells #[.bool nb, .slice ab jb cb] 24)).trans (hb2.mono hs2)
 have hl3 := ((hl.put (B' := w1.heap.size) (by simp <;> omega) (.bool (decide (z < 0))) (.slice a3 (dig z.natAbs).length c3)).put (B' := w.heap.size) (by simp <;> omega) (.bool (decide (z < 0))) (.slice a3 (dig z.natAbs).length c3)).mono hs2
 exact bodyPost_ret (v := .tuple #[.agg #[.bool (decide (z < 0)), .slice a3 (dig z.natAbs).length c3], .int .i64 0]) (by simp [results, Tryz.results128, go_sem, k4.1, k4.2]) rfl ⟨⟨_, rfl, _, rfl, hl3⟩, Below.put (Below.put hB2 (by omega) _ _) (Nat.le_refl _) _ _⟩
theorem join_product_ok (B : Nat) (s : Value) (s' : Value) (a b z : Int) (w : World) (hr : Row2 w B (decide (a < 0)) s (decide (b < 0)) s') (h : Lim w s (dig a.natAbs)) (g : Lim w s' (dig b.natAbs)) (hv : (vld (decide (a < 0)) (dig a.natAbs) && vld (decide (b < 0)) (dig b.natAbs)) = true)
  (hlen : (dig z.natAbs).length ≤ 1024) (hop : ∀ va vb W, Num W va a → Num W vb b → Calls Tryz.prog 139 #[va, vb] W fun e w' => (∃ v, e = .returned v ∧ NumF W.heap.size w' v z) ∧ Below W.heap.size W w') :
  Calls Tryz.prog 128 #[.func (.func 139) #[] #[], .slice (some ⟨B, 0, none⟩) 2 2] w fun e w' => (∃ v, e = .returned (.tuple #[v, .int .i64 0]) ∧ NumF w.heap.size w' v z) ∧ Below w.heap.size w w' := by
 have hz := (Below.refl w.heap.size w).alloc (Nat.le_refl _) (.cells #[.bool false, .slice none 0 0] 24)
 have x4 := Bx.new w (.bool false) (.slice none 0 0)
 have hr1 := hr.on ((Below.refl w.heap.size w).alloc (Nat.le_refl _) (.cells #[.bool false, .slice none 0 0] 24))
 obtain ⟨c0, c1, c2, c3⟩ := id hr1
 have hw1 := allValid_two B _ s _ _ s' _ _ c0 c1 c2 c3 (h.below hz (Nat.le_refl _)) (g.below hz (Nat.le_refl _))
 rw [hv] at hw1
 have HW1 := Lib.hid hw1
 clear hw1 c0 c1 c2 c3 hr hv
 have hw2 := fun W (hW : Below w.heap.size w W) => hop (.agg #[.bool (decide (a < 0)), s]) (.agg #[.bool (decide (b < 0)), s']) W ⟨s, rfl, h.below hW (Nat.le_refl _)⟩ ⟨s', rfl, g.below hW (Nat.le_refl _)⟩
 have HW2 := Lib.hid hw2
 clear hw2 hop
 obtain ⟨aa, ca, rfl⟩ := lim_slice h
 obtain ⟨ab, cb, rfl⟩ := lim_slice g
 obtain ⟨na, hna⟩ : ∃ n, n = decide (a < 0) := ⟨_, rfl⟩
 obtain ⟨nb, hnb⟩ : ∃ n, n = decide (b < 0) := ⟨_, rfl⟩
 obtain ⟨ja, hja⟩ : ∃ n, n = (dig a.natAbs).length := ⟨_, rfl⟩
 obtain ⟨jb, hjb⟩ : ∃ n, n = (dig b.natAbs).length := ⟨_, rfl⟩
 rw [← hna, ← hnb, ← hja, ← hjb] at hr1 HW2
 clear h g hna hnb hja hjb
 go_enter Tryz.func128, Tryz.ntmps128
 go_wp2_with (go_at_call 52; refine HW1.out.mono ?_; rintro e w1 ⟨rfl, hb1⟩; have hB1 := hz.trans (hb1.mono hz.size); have hr2 := hr1.on hb1; obtain ⟨c0, c1, c2, c3⟩ := hr2; have hBlt := lt_of_cell c0; have y4 := x4.on hb1; have hlt4 := y4.lt)
 refine wp_loop_rounds 2 ?_
 rw [rounds_succ]
 go_wp2_with (go_at_call 139; refine (HW2.out _ ((hB1.alloc hB1.size _).alloc (by simp; have := hB1.size; omega) _)).mono ?_; rintro e w2 ⟨⟨v, rfl, ⟨s2, rfl, hl⟩⟩, hb2⟩; obtain ⟨a3, c3, rfl⟩ := lf_slice hl; have z6 := ((Bx.new w1 (.bool na) (.slice aa ja ca)).alloc (.cells #[.bool nb, .slice ab jb cb] 24)).on hb2; have z4 := ((y4.alloc (.cells #[.bool na, .slice aa ja ca] 24)).alloc (.cells #[.bool nb, .slice ab jb cb] 24)).on hb2; obtain ⟨p6, p6'⟩ := z6.cells; obtain ⟨f6, f6'⟩ := z6.free; obtain ⟨p4, p4'⟩ := z4.cells; obtain ⟨f4, f4'⟩ := z4.free; have ne1 : w1.heap.size ≠ w.heap.size := (by omega))
 rw [rounds_succ]
 go_wp2
 have k4 := ((z4.put_other (.bool (decide (z < 0))) (.slice a3 (dig z.natAbs).length c3) ne1).put (.bool (decide (z < 0))) (.slice a3 (dig z.natAbs).length c3)).cells
 have hs2 : w.heap.size ≤ ((w1.alloc (.cells #[.bool na, .slice aa ja ca] 24)).alloc (.cells #[.bool nb, .slice ab jb cb] 24)).heap.size := by simp; omega
 have hB2 := ((hB1.alloc hB1.size (.cells #[.bool na, .slice aa ja ca] 24)).alloc (by simp <;> omega) (.cells #[.bool nb, .slice ab jb cb] 24)).trans (hb2.mono hs2)
 have hl3 := ((hl.put (B' := w1.heap.size) (by simp <;> omega) (.bool (decide (z < 0))) (.slice a3 (dig z.natAbs).length c3)).put (B' := w.heap.size) (by simp <;> omega) (.bool (decide (z < 0))) (.slice a3 (dig z.natAbs).length c3)).mono hs2
 exact bodyPost_ret (v := .tuple #[.agg #[.bool (decide (z < 0)), .slice a3 (dig z.natAbs).length c3], .int .i64 0]) (by simp [results, Tryz.results128, go_sem, k4.1, k4.2]) rfl ⟨⟨_, rfl, _, rfl, hl3⟩, Below.put (Below.put hB2 (by omega) _ _) (Nat.le_refl _) _ _⟩
theorem join_divisor_ok (B : Nat) (s : Value) (s' : Value) (a b z : Int) (w : World) (hr : Row2 w B (decide (a < 0)) s (decide (b < 0)) s') (h : Lim w s (dig a.natAbs)) (g : Lim w s' (dig b.natAbs)) (hv : (vld (decide (a < 0)) (dig a.natAbs) && vld (decide (b < 0)) (dig b.natAbs)) = true)
  (hlen : (dig z.natAbs).length ≤ 1024) (hop : ∀ va vb W, Num W va a → Num W vb b → Calls Tryz.prog 132 #[va, vb] W fun e w' => (∃ v, e = .returned v ∧ NumF W.heap.size w' v z) ∧ Below W.heap.size W w') :
  Calls Tryz.prog 128 #[.func (.func 132) #[] #[], .slice (some ⟨B, 0, none⟩) 2 2] w fun e w' => (∃ v, e = .returned (.tuple #[v, .int .i64 0]) ∧ NumF w.heap.size w' v z) ∧ Below w.heap.size w w' := by
 have hz := (Below.refl w.heap.size w).alloc (Nat.le_refl _) (.cells #[.bool false, .slice none 0 0] 24)
 have x4 := Bx.new w (.bool false) (.slice none 0 0)
 have hr1 := hr.on ((Below.refl w.heap.size w).alloc (Nat.le_refl _) (.cells #[.bool false, .slice none 0 0] 24))
 obtain ⟨c0, c1, c2, c3⟩ := id hr1
 have hw1 := allValid_two B _ s _ _ s' _ _ c0 c1 c2 c3 (h.below hz (Nat.le_refl _)) (g.below hz (Nat.le_refl _))
 rw [hv] at hw1
 have HW1 := Lib.hid hw1
 clear hw1 c0 c1 c2 c3 hr hv
 have hw2 := fun W (hW : Below w.heap.size w W) => hop (.agg #[.bool (decide (a < 0)), s]) (.agg #[.bool (decide (b < 0)), s']) W ⟨s, rfl, h.below hW (Nat.le_refl _)⟩ ⟨s', rfl, g.below hW (Nat.le_refl _)⟩
 have HW2 := Lib.hid hw2
 clear hw2 hop
 obtain ⟨aa, ca, rfl⟩ := lim_slice h
 obtain ⟨ab, cb, rfl⟩ := lim_slice g
 obtain ⟨na, hna⟩ : ∃ n, n = decide (a < 0) := ⟨_, rfl⟩
 obtain ⟨nb, hnb⟩ : ∃ n, n = decide (b < 0) := ⟨_, rfl⟩
 obtain ⟨ja, hja⟩ : ∃ n, n = (dig a.natAbs).length := ⟨_, rfl⟩
 obtain ⟨jb, hjb⟩ : ∃ n, n = (dig b.natAbs).length := ⟨_, rfl⟩
 rw [← hna, ← hnb, ← hja, ← hjb] at hr1 HW2
 clear h g hna hnb hja hjb
 go_enter Tryz.func128, Tryz.ntmps128
 go_wp2_with (go_at_call 52; refine HW1.out.mono ?_; rintro e w1 ⟨rfl, hb1⟩; have hB1 := hz.trans (hb1.mono hz.size); have hr2 := hr1.on hb1; obtain ⟨c0, c1, c2, c3⟩ := hr2; have hBlt := lt_of_cell c0; have y4 := x4.on hb1; have hlt4 := y4.lt)
 refine wp_loop_rounds 2 ?_
 rw [rounds_succ]
 go_wp2_with (go_at_call 132; refine (HW2.out _ ((hB1.alloc hB1.size _).alloc (by simp; have := hB1.size; omega) _)).mono ?_; rintro e w2 ⟨⟨v, rfl, ⟨s2, rfl, hl⟩⟩, hb2⟩; obtain ⟨a3, c3, rfl⟩ := lf_slice hl; have z6 := ((Bx.new w1 (.bool na) (.slice aa ja ca)).alloc (.cells #[.bool nb, .slice ab jb cb] 24)).on hb2; have z4 := ((y4.alloc (.cells #[.bool na, .slice aa ja ca] 24)).alloc (.cells #[.bool nb, .slice ab jb cb] 24)).on hb2; obtain ⟨p6, p6'⟩ := z6.cells; obtain ⟨f6, f6'⟩ := z6.free; obtain ⟨p4, p4'⟩ := z4.cells; obtain ⟨f4, f4'⟩ := z4.free; have ne1 : w1.heap.size ≠ w.heap.size := (by omega))
 rw [rounds_succ]
 go_wp2
 have k4 := ((z4.put_other (.bool (decide (z < 0))) (.slice a3 (dig z.natAbs).length c3) ne1).put (.bool (decide (z < 0))) (.slice a3 (dig z.natAbs).length c3)).cells
 have hs2 : w.heap.size ≤ ((w1.alloc (.cells #[.bool na, .slice aa ja ca] 24)).alloc (.cells #[.bool nb, .slice ab jb cb] 24)).heap.size := by simp; omega
 have hB2 := ((hB1.alloc hB1.size (.cells #[.bool na, .slice aa ja ca] 24)).alloc (by simp <;> omega) (.cells #[.bool nb, .slice ab jb cb] 24)).trans (hb2.mono hs2)
 have hl3 := ((hl.put (B' := w1.heap.size) (by simp <;> omega) (.bool (decide (z < 0))) (.slice a3 (dig z.natAbs).length c3)).put (B' := w.heap.size) (by simp <;> omega) (.bool (decide (z < 0))) (.slice a3 (dig z.natAbs).length c3)).mono hs2
 exact bodyPost_ret (v := .tuple #[.agg #[.bool (decide (z < 0)), .slice a3 (dig z.natAbs).length c3], .int .i64 0]) (by simp [results, Tryz.results128, go_sem, k4.1, k4.2]) rfl ⟨⟨_, rfl, _, rfl, hl3⟩, Below.put (Below.put hB2 (by omega) _ _) (Nat.le_refl _) _ _⟩
end Go.Proofs.YtmbcnfogjncdaaaGreat
namespace Go.Proofs.YtmbcnfogjncdaaaGreat
open Go.RowKit Wh
abbrev zeroW : Value := .agg #[.bool false, .slice none 0 0]
theorem vld_num (z : Int) (h : (dig z.natAbs).length ≤ 1024) : vld (decide (z < 0)) (dig z.natAbs) = true := by
  unfold vld
  split
  · rename_i e
    have := (dig_nil_iff _).1 e
    simp; omega
  · rename_i e
    have h0 : z.natAbs ≠ 0 := fun e' => e (by rw [e', dig_zero])
    have := dig_last_ne h0
    simp [h, this]
theorem row2_new (W : World) (b : Bool) (s : Value) (b' : Bool) (s' : Value) : Row2 (W.alloc (.cells #[.bool b, s, .bool b', s'] 24)) W.heap.size b s b' s' := by
 exact ⟨by simp, by simp, by simp, by simp⟩
theorem Add_ok (va vb : Value) (a b : Int) (ha : (dig a.natAbs).length ≤ 1024) (hb : (dig b.natAbs).length ≤ 1024) (w : World) (h' : Num w va a) (g' : Num w vb b) (hlen : (dig (a + b).natAbs).length ≤ 1024) :
  Calls Tryz.prog 47 #[va, vb] w fun e w' => (∃ v, e = .returned (.tuple #[v, .int .i64 0]) ∧ NumF w.heap.size w' v (a + b)) ∧ Below w.heap.size w w' := by
 obtain ⟨s, rfl, h⟩ := h'
 obtain ⟨s', rfl, g⟩ := g'
 have hw1 := fun B W (hr : Row2 W B (decide (a < 0)) s (decide (b < 0)) s') (hW : Below w.heap.size w W) => join_sum_ok B s s' a b (a + b) W hr (h.below hW (Nat.le_refl _)) (g.below hW (Nat.le_refl _)) (by rw [vld_num a ha, vld_num b hb]; rfl) hlen (fun va vb W h g => sum_any va vb a b (by omega) (by omega) W h g)
 have HW1 := Lib.hid hw1
 obtain ⟨aa, ca, rfl⟩ := lim_slice h
 obtain ⟨ab, cb, rfl⟩ := lim_slice g
 clear hw1 h g
 obtain ⟨ja, hja⟩ : ∃ n, n = (dig a.natAbs).length := ⟨_, rfl⟩
 obtain ⟨jb, hjb⟩ : ∃ n, n = (dig b.natAbs).length := ⟨_, rfl⟩
 obtain ⟨na, hna⟩ : ∃ n, n = decide (a < 0) := ⟨_, rfl⟩
 obtain ⟨nb, hnb⟩ : ∃ n, n = decide (b < 0) := ⟨_, rfl⟩
 obtain ⟨z, hzz⟩ : ∃ z : Int, z = a + b := ⟨_, rfl⟩
 rw [← hja, ← hjb, ← hna, ← hnb, ← hzz] at HW1
 rw [← hja, ← hjb, ← hna, ← hnb, ← hzz]
 clear hja hjb hna hnb hzz hlen ha hb
 have hz := ((((Below.refl w.heap.size w).alloc (Nat.le_refl _) (.cells #[.bool na, .slice aa ja ca] 24)).alloc (by simp) (.cells #[.bool nb, .slice ab jb cb] 24)).alloc (by simp <;> omega) (.cells #[.bool false, .slice none 0 0] 24)).alloc (by simp <;> omega) (.cells #[.bool na, .slice aa ja ca, .bool nb, .slice ab jb cb] 24)
 have x4 := (Bx.new ((w.alloc (.cells #[.bool na, .slice aa ja ca] 24)).alloc (.cells #[.bool nb, .slice ab jb cb] 24)) (.bool false) (.slice none 0 0)).alloc (.cells #[.bool na, .slice aa ja ca, .bool nb, .slice ab jb cb] 24)
 have hr := row2_new (((w.alloc (.cells #[.bool na, .slice aa ja ca] 24)).alloc (.cells #[.bool nb, .slice ab jb cb] 24)).alloc (.cells #[.bool false, .slice none 0 0] 24)) na (.slice aa ja ca) nb (.slice ab jb cb)
 simp only [World.size_alloc] at x4 hr
 have HR := Lib.hid hr
 clear hr
 go_enter Tryz.func47, Tryz.ntmps47
 go_wp2_with (go_at_call 128; refine (HW1.out _ _ HR.out hz).mono ?_; rintro e w2 ⟨⟨v, rfl, ⟨s2, rfl, hl⟩⟩, hb2⟩; obtain ⟨a3, c3, rfl⟩ := lf_slice hl; have hB2 := hz.trans (hb2.mono hz.size); have z4 := x4.on hb2; obtain ⟨p4, p4'⟩ := z4.cells; obtain ⟨f4, f4'⟩ := z4.free)
 obtain ⟨k4, k4'⟩ := (z4.put (.bool (decide (z < 0))) (.slice a3 (dig z.natAbs).length c3)).cells
 have hl3 := (hl.put (B' := w.heap.size + 1 + 1) (by simp <;> omega) (.bool (decide (z < 0))) (.slice a3 (dig z.natAbs).length c3)).mono hz.size
 exact bodyPost_ret (v := .tuple #[.agg #[.bool (decide (z < 0)), .slice a3 (dig z.natAbs).length c3], .int .i64 0]) (by simp [results, Tryz.results47, go_sem, k4, k4']) rfl ⟨⟨_, rfl, _, rfl, hl3⟩, Below.put hB2 (by omega) _ _⟩
theorem Mul_ok (va vb : Value) (a b : Int) (ha : (dig a.natAbs).length ≤ 1024) (hb : (dig b.natAbs).length ≤ 1024) (w : World) (h' : Num w va a) (g' : Num w vb b) (hlen : (dig (a * b).natAbs).length ≤ 1024) :
  Calls Tryz.prog 68 #[va, vb] w fun e w' => (∃ v, e = .returned (.tuple #[v, .int .i64 0]) ∧ NumF w.heap.size w' v (a * b)) ∧ Below w.heap.size w w' := by
 obtain ⟨s, rfl, h⟩ := h'
 obtain ⟨s', rfl, g⟩ := g'
 have hw1 := fun B W (hr : Row2 W B (decide (a < 0)) s (decide (b < 0)) s') (hW : Below w.heap.size w W) => join_product_ok B s s' a b (a * b) W hr (h.below hW (Nat.le_refl _)) (g.below hW (Nat.le_refl _)) (by rw [vld_num a ha, vld_num b hb]; rfl) hlen (fun va vb W h g => product_any va vb a b (by omega) (by omega) W h g)
 have HW1 := Lib.hid hw1
 obtain ⟨aa, ca, rfl⟩ := lim_slice h
 obtain ⟨ab, cb, rfl⟩ := lim_slice g
 clear hw1 h g
 obtain ⟨ja, hja⟩ : ∃ n, n = (dig a.natAbs).length := ⟨_, rfl⟩
 obtain ⟨jb, hjb⟩ : ∃ n, n = (dig b.natAbs).length := ⟨_, rfl⟩
 obtain ⟨na, hna⟩ : ∃ n, n = decide (a < 0) := ⟨_, rfl⟩
 obtain ⟨nb, hnb⟩ : ∃ n, n = decide (b < 0) := ⟨_, rfl⟩
 obtain ⟨z, hzz⟩ : ∃ z : Int, z = a * b := ⟨_, rfl⟩
 rw [← hja, ← hjb, ← hna, ← hnb, ← hzz] at HW1
 rw [← hja, ← hjb, ← hna, ← hnb, ← hzz]
 clear hja hjb hna hnb hzz hlen ha hb
 have hz := ((((Below.refl w.heap.size w).alloc (Nat.le_refl _) (.cells #[.bool na, .slice aa ja ca] 24)).alloc (by simp) (.cells #[.bool nb, .slice ab jb cb] 24)).alloc (by simp <;> omega) (.cells #[.bool false, .slice none 0 0] 24)).alloc (by simp <;> omega) (.cells #[.bool na, .slice aa ja ca, .bool nb, .slice ab jb cb] 24)
 have x4 := (Bx.new ((w.alloc (.cells #[.bool na, .slice aa ja ca] 24)).alloc (.cells #[.bool nb, .slice ab jb cb] 24)) (.bool false) (.slice none 0 0)).alloc (.cells #[.bool na, .slice aa ja ca, .bool nb, .slice ab jb cb] 24)
 have hr := row2_new (((w.alloc (.cells #[.bool na, .slice aa ja ca] 24)).alloc (.cells #[.bool nb, .slice ab jb cb] 24)).alloc (.cells #[.bool false, .slice none 0 0] 24)) na (.slice aa ja ca) nb (.slice ab jb cb)
 simp only [World.size_alloc] at x4 hr
 have HR := Lib.hid hr
 clear hr
 go_enter Tryz.func68, Tryz.ntmps68
 go_wp2_with (go_at_call 128; refine (HW1.out _ _ HR.out hz).mono ?_; rintro e w2 ⟨⟨v, rfl, ⟨s2, rfl, hl⟩⟩, hb2⟩; obtain ⟨a3, c3, rfl⟩ := lf_slice hl; have hB2 := hz.trans (hb2.mono hz.size); have z4 := x4.on hb2; obtain ⟨p4, p4'⟩ := z4.cells; obtain ⟨f4, f4'⟩ := z4.free)
 obtain ⟨k4, k4'⟩ := (z4.put (.bool (decide (z < 0))) (.slice a3 (dig z.natAbs).length c3)).cells
 have hl3 := (hl.put (B' := w.heap.size + 1 + 1) (by simp <;> omega) (.bool (decide (z < 0))) (.slice a3 (dig z.natAbs).length c3)).mono hz.size
 exact bodyPost_ret (v := .tuple #[.agg #[.bool (decide (z < 0)), .slice a3 (dig z.natAbs).length c3], .int .i64 0]) (by simp [results, Tryz.results68, go_sem, k4, k4']) rfl ⟨⟨_, rfl, _, rfl, hl3⟩, Below.put hB2 (by omega) _ _⟩
theorem Gcd_ok (va vb : Value) (a b : Int) (ha : (dig a.natAbs).length ≤ 1024) (hb : (dig b.natAbs).length ≤ 1024) (w : World) (h' : Num w va a) (g' : Num w vb b) (hlen : (dig (((Nat.gcd a.natAbs b.natAbs : Nat) : Int)).natAbs).length ≤ 1024) :
  Calls Tryz.prog 50 #[va, vb] w fun e w' => (∃ v, e = .returned (.tuple #[v, .int .i64 0]) ∧ NumF w.heap.size w' v (((Nat.gcd a.natAbs b.natAbs : Nat) : Int))) ∧ Below w.heap.size w w' := by
 obtain ⟨s, rfl, h⟩ := h'
 obtain ⟨s', rfl, g⟩ := g'
 have hw1 := fun B W (hr : Row2 W B (decide (a < 0)) s (decide (b < 0)) s') (hW : Below w.heap.size w W) => join_divisor_ok B s s' a b (((Nat.gcd a.natAbs b.natAbs : Nat) : Int)) W hr (h.below hW (Nat.le_refl _)) (g.below hW (Nat.le_refl _)) (by rw [vld_num a ha, vld_num b hb]; rfl) hlen (fun va vb W h g => divisor_any va vb a b (by omega) (by omega) W h g)
 have HW1 := Lib.hid hw1
 obtain ⟨aa, ca, rfl⟩ := lim_slice h
 obtain ⟨ab, cb, rfl⟩ := lim_slice g
 clear hw1 h g
 obtain ⟨ja, hja⟩ : ∃ n, n = (dig a.natAbs).length := ⟨_, rfl⟩
 obtain ⟨jb, hjb⟩ : ∃ n, n = (dig b.natAbs).length := ⟨_, rfl⟩
 obtain ⟨na, hna⟩ : ∃ n, n = decide (a < 0) := ⟨_, rfl⟩
 obtain ⟨nb, hnb⟩ : ∃ n, n = decide (b < 0) := ⟨_, rfl⟩
 obtain ⟨z, hzz⟩ : ∃ z : Int, z = ((Nat.gcd a.natAbs b.natAbs : Nat) : Int) := ⟨_, rfl⟩
 rw [← hja, ← hjb, ← hna, ← hnb, ← hzz] at HW1
 rw [← hja, ← hjb, ← hna, ← hnb, ← hzz]
 clear hja hjb hna hnb hzz hlen ha hb
 have hz := ((((Below.refl w.heap.size w).alloc (Nat.le_refl _) (.cells #[.bool na, .slice aa ja ca] 24)).alloc (by simp) (.cells #[.bool nb, .slice ab jb cb] 24)).alloc (by simp <;> omega) (.cells #[.bool false, .slice none 0 0] 24)).alloc (by simp <;> omega) (.cells #[.bool na, .slice aa ja ca, .bool nb, .slice ab jb cb] 24)
 have x4 := (Bx.new ((w.alloc (.cells #[.bool na, .slice aa ja ca] 24)).alloc (.cells #[.bool nb, .slice ab jb cb] 24)) (.bool false) (.slice none 0 0)).alloc (.cells #[.bool na, .slice aa ja ca, .bool nb, .slice ab jb cb] 24)
 have hr := row2_new (((w.alloc (.cells #[.bool na, .slice aa ja ca] 24)).alloc (.cells #[.bool nb, .slice ab jb cb] 24)).alloc (.cells #[.bool false, .slice none 0 0] 24)) na (.slice aa ja ca) nb (.slice ab jb cb)
 simp only [World.size_alloc] at x4 hr
 have HR := Lib.hid hr
 clear hr
 go_enter Tryz.func50, Tryz.ntmps50
 go_wp2_with (go_at_call 128; refine (HW1.out _ _ HR.out hz).mono ?_; rintro e w2 ⟨⟨v, rfl, ⟨s2, rfl, hl⟩⟩, hb2⟩; obtain ⟨a3, c3, rfl⟩ := lf_slice hl; have hB2 := hz.trans (hb2.mono hz.size); have z4 := x4.on hb2; obtain ⟨p4, p4'⟩ := z4.cells; obtain ⟨f4, f4'⟩ := z4.free)
 obtain ⟨k4, k4'⟩ := (z4.put (.bool (decide (z < 0))) (.slice a3 (dig z.natAbs).length c3)).cells
 have hl3 := (hl.put (B' := w.heap.size + 1 + 1) (by simp <;> omega) (.bool (decide (z < 0))) (.slice a3 (dig z.natAbs).length c3)).mono hz.size
 exact bodyPost_ret (v := .tuple #[.agg #[.bool (decide (z < 0)), .slice a3 (dig z.natAbs).length c3], .int .i64 0]) (by simp [results, Tryz.results50, go_sem, k4, k4']) rfl ⟨⟨_, rfl, _, rfl, hl3⟩, Below.put hB2 (by omega) _ _⟩
end Go.Proofs.YtmbcnfogjncdaaaGreat
namespace Go.Proofs.YtmbcnfogjncdaaaGreat
open Go.RowKit Wh
theorem num_sign (n : Int) : (decide (n < 0) && decide (dig n.natAbs ≠ [])) = decide (n < 0) := by
 rw [Bool.eq_iff_iff]
 simp [dig_nil_iff]
 omega
theorem FromInt_any (n : Int) (h1 : -9223372036854775808 ≤ n) (h2 : n ≤ 9223372036854775807) (w : World) :
    Calls Tryz.prog 19 #[.int .i64 n] w fun e w' => (∃ v, e = .returned v ∧ NumF w.heap.size w' v n) ∧ Below w.heap.size w w' := by
  have hw1 := fun W => limbsOf_any n.natAbs (by omega) W
  have hw2 := fun W s (hl : Lim W s (dig n.natAbs)) => number_any (decide (n < 0)) s _ W hl
  rw [num_sign] at hw2
  have HW1 := Lib.hid hw1
  have HW2 := Lib.hid hw2
  clear hw1 hw2
  have hz := (Below.refl w.heap.size w).alloc (Nat.le_refl _) (.cells #[.bool false, .slice none 0 0] 24)
  have x4 := Bx.new w (.bool false) (.slice none 0 0)
  have fin : ∀ {w2 w3 : World} {a3 c3}, LimF (w.alloc (.cells #[.bool false, .slice none 0 0] 24)).heap.size w2 (.slice a3 (dig n.natAbs).length c3) (dig n.natAbs) → Below w2.heap.size w2 w3 →
      NumF w.heap.size ((w3.setCell ⟨w.heap.size, 0, none⟩ (.bool (decide (n < 0)))).setCell ⟨w.heap.size, 1, none⟩ (.slice a3 (dig n.natAbs).length c3)) (.agg #[.bool (decide (n < 0)), .slice a3 (dig n.natAbs).length c3]) n := fun hl hb =>
    ⟨_, rfl, ((hl.below hb).put (B' := w.heap.size) (by simp) (.bool (decide (n < 0))) _).mono hz.size⟩
  have FIN := @fin
  clear fin
  rcases Int.lt_or_le n 0 with h0 | h0
  · have e1 : decide (n < 0) = true := decide_eq_true h0
    have e2 : IntKind.u64.wrap (-IntKind.u64.wrap n) = ((n.natAbs : Nat) : Int) := by rw [IntKind.wrap_u64, IntKind.wrap_u64]; omega
    rw [← e2] at HW1
    rw [e1] at HW2 FIN
    clear e1 e2
    go_enter Tryz.func19, Tryz.ntmps19
    go_wp2_with (first
      | (go_at_call 65; refine (HW1.out _).mono ?_; rintro e w2 ⟨⟨s, rfl, hl⟩, hb2⟩; obtain ⟨a3, c3, rfl⟩ := lf_slice hl; have hB2 := hz.trans (hb2.mono hz.size); have z4 := x4.on hb2)
      | (go_at_call 58; refine (HW2.out _ _ hl.1).mono ?_; rintro e w3 ⟨rfl, hb3⟩; have hB3 := hB2.trans (hb3.mono hB2.size); have v4 := z4.on hb3; obtain ⟨p4, p4'⟩ := v4.cells; obtain ⟨f4, f4'⟩ := v4.free))
    obtain ⟨k4, k4'⟩ := (v4.put (.bool true) (.slice a3 (dig n.natAbs).length c3)).cells
    exact bodyPost_ret (v := .agg #[.bool true, .slice a3 (dig n.natAbs).length c3]) (by simp [results, Tryz.results19, go_sem, k4, k4']) rfl ⟨⟨_, rfl, FIN hl hb3⟩, Below.put hB3 (Nat.le_refl _) _ _⟩
  · have e2 : n = ((n.natAbs : Nat) : Int) := by omega
    have HW1' : Hid (∀ W : World, Calls Tryz.prog 65 #[.int .u64 n] W fun e w' => (∃ v', e = .returned v' ∧ LimF W.heap.size w' v' (dig n.natAbs)) ∧ Below W.heap.size W w') := by
      rw [← e2] at HW1; exact HW1
    clear e2 HW1
    go_enter Tryz.func19, Tryz.ntmps19
    go_wp2_with (first
      | (go_at_call 65; refine (HW1'.out _).mono ?_; rintro e w2 ⟨⟨s, rfl, hl⟩, hb2⟩; obtain ⟨a3, c3, rfl⟩ := lf_slice hl; have hB2 := hz.trans (hb2.mono hz.size); have z4 := x4.on hb2)
      | (go_at_call 58; refine (HW2.out _ _ hl.1).mono ?_; rintro e w3 ⟨rfl, hb3⟩; have hB3 := hB2.trans (hb3.mono hB2.size); have v4 := z4.on hb3; obtain ⟨p4, p4'⟩ := v4.cells; obtain ⟨f4, f4'⟩ := v4.free))
    obtain ⟨k4, k4'⟩ := (v4.put (.bool (decide (n < 0))) (.slice a3 (dig n.natAbs).length c3)).cells
    exact bodyPost_ret (v := .agg #[.bool (decide (n < 0)), .slice a3 (dig n.natAbs).length c3]) (by simp [results, Tryz.results19, go_sem, k4, k4']) rfl ⟨⟨_, rfl, FIN hl hb3⟩, Below.put hB3 (Nat.le_refl _) _ _⟩
end Go.Proofs.YtmbcnfogjncdaaaGreat
namespace Go.Proofs.YtmbcnfogjncdaaaGreat
open Go.RowKit Wh
def cmpI (a b : Int) : Int := if a < b then -1 else if b < a then 1 else 0
theorem cmp_walk (na nb : Bool) (aa ab : Option Addr) (ja ca jb cb : Nat) (r : Int) (w : World)
    (HW1 : Hid (∀ B W, Row2 W B na (.slice aa ja ca) nb (.slice ab jb cb) → Below w.heap.size w W → Calls Tryz.prog 52 #[.slice (some ⟨B, 0, none⟩) 2 2] W fun e w' => e = .returned (.bool true) ∧ Below W.heap.size W w'))
    (HW2 : Hid (na = true → nb = true → ∀ W, Below w.heap.size w W → Calls Tryz.prog 142 #[.slice ab jb cb, .slice aa ja ca] W fun e w' => e = .returned (.int .i64 r) ∧ Below W.heap.size W w'))
    (HW3 : Hid (na = false → nb = false → ∀ W, Below w.heap.size w W → Calls Tryz.prog 142 #[.slice aa ja ca, .slice ab jb cb] W fun e w' => e = .returned (.int .i64 r) ∧ Below W.heap.size W w'))
    (H4 : Hid (na = true → nb = false → r = -1)) (H5 : Hid (na = false → nb = true → r = 1)) :
    Calls Tryz.prog 74 #[.agg #[.bool na, .slice aa ja ca], .agg #[.bool nb, .slice ab jb cb]] w fun e w' => e = .returned (.int .i64 r) ∧ Below w.heap.size w w' := by
  have hz := (((Below.refl w.heap.size w).alloc (Nat.le_refl _) (.cells #[.bool na, .slice aa ja ca] 24)).alloc (by simp) (.cells #[.bool nb, .slice ab jb cb] 24)).alloc (by simp <;> omega) (.cells #[.bool na, .slice aa ja ca, .bool nb, .slice ab jb cb] 24)
  have x2 := ((Bx.new w (.bool na) (.slice aa ja ca)).alloc (.cells #[.bool nb, .slice ab jb cb] 24)).alloc (.cells #[.bool na, .slice aa ja ca, .bool nb, .slice ab jb cb] 24)
  have x3 := (Bx.new (w.alloc (.cells #[.bool na, .slice aa ja ca] 24)) (.bool nb) (.slice ab jb cb)).alloc (.cells #[.bool na, .slice aa ja ca, .bool nb, .slice ab jb cb] 24)
  have hr := row2_new ((w.alloc (.cells #[.bool na, .slice aa ja ca] 24)).alloc (.cells #[.bool nb, .slice ab jb cb] 24)) na (.slice aa ja ca) nb (.slice ab jb cb)
  simp only [World.size_alloc] at hr x3
  have HR := Lib.hid hr
  clear hr
  rcases Bool.eq_false_or_eq_true na with ea | ea <;> rcases Bool.eq_false_or_eq_true nb with eb | eb <;> subst ea <;> subst eb
  · have HC := Lib.hid (HW2.out rfl rfl)
    clear HW2 HW3 H4 H5
    go_enter Tryz.func74, Tryz.ntmps74
    go_wp2_with (first
      | (go_at_call 52; refine (HW1.out _ _ HR.out hz).mono ?_; rintro e w2 ⟨rfl, hb2⟩; have hB2 := hz.trans (hb2.mono hz.size); have z2 := x2.on hb2; have z3 := x3.on hb2; obtain ⟨p2, p2'⟩ := z2.cells; obtain ⟨p3, p3'⟩ := z3.cells)
      | (go_at_call 142; refine (HC.out _ hB2).mono ?_; rintro e w3 ⟨rfl, hb3⟩; have hB3 := hB2.trans (hb3.mono hB2.size)))
    go_ret
    exact ⟨rfl, hB3⟩
  · have HC := Lib.hid (H4.out rfl rfl)
    clear HW2 HW3 H4 H5
    go_enter Tryz.func74, Tryz.ntmps74
    go_wp2_with (first
      | (go_at_call 52; refine (HW1.out _ _ HR.out hz).mono ?_; rintro e w2 ⟨rfl, hb2⟩; have hB2 := hz.trans (hb2.mono hz.size); have z2 := x2.on hb2; have z3 := x3.on hb2; obtain ⟨p2, p2'⟩ := z2.cells; obtain ⟨p3, p3'⟩ := z3.cells))
    go_ret
    exact ⟨by rw [HC.out]; rfl, hB2⟩
  · have HC := Lib.hid (H5.out rfl rfl)
    clear HW2 HW3 H4 H5
    go_enter Tryz.func74, Tryz.ntmps74
    go_wp2_with (first
      | (go_at_call 52; refine (HW1.out _ _ HR.out hz).mono ?_; rintro e w2 ⟨rfl, hb2⟩; have hB2 := hz.trans (hb2.mono hz.size); have z2 := x2.on hb2; have z3 := x3.on hb2; obtain ⟨p2, p2'⟩ := z2.cells; obtain ⟨p3, p3'⟩ := z3.cells))
    go_ret
    exact ⟨by rw [HC.out]; rfl, hB2⟩
  · have HC := Lib.hid (HW3.out rfl rfl)
    clear HW2 HW3 H4 H5
    go_enter Tryz.func74, Tryz.ntmps74
    go_wp2_with (first
      | (go_at_call 52; refine (HW1.out _ _ HR.out hz).mono ?_; rintro e w2 ⟨rfl, hb2⟩; have hB2 := hz.trans (hb2.mono hz.size); have z2 := x2.on hb2; have z3 := x3.on hb2; obtain ⟨p2, p2'⟩ := z2.cells; obtain ⟨p3, p3'⟩ := z3.cells)
      | (go_at_call 142; refine (HC.out _ hB2).mono ?_; rintro e w3 ⟨rfl, hb3⟩; have hB3 := hB2.trans (hb3.mono hB2.size)))
    go_ret
    exact ⟨rfl, hB3⟩
theorem Cmp_any (va vb : Value) (a b : Int) (ha : (dig a.natAbs).length ≤ 1024) (hb : (dig b.natAbs).length ≤ 1024) (w : World) (h' : Num w va a) (g' : Num w vb b) :
  Calls Tryz.prog 74 #[va, vb] w fun e w' => e = .returned (.int .i64 (cmpI a b)) ∧ Below w.heap.size w w' := by
 obtain ⟨s, rfl, h⟩ := h'
 obtain ⟨s', rfl, g⟩ := g'
 have hw1 := fun B W (hr : Row2 W B (decide (a < 0)) s (decide (b < 0)) s') (hW : Below w.heap.size w W) => allValid_two B _ s _ _ s' _ W hr.1 hr.2.1 hr.2.2.1 hr.2.2.2 (h.below hW (Nat.le_refl _)) (g.below hW (Nat.le_refl _))
 rw [vld_num a ha, vld_num b hb, Bool.true_and] at hw1
 have hw2 : decide (a < 0) = true → decide (b < 0) = true → ∀ W, Below w.heap.size w W → Calls Tryz.prog 142 #[s', s] W fun e w' => e = .returned (.int .i64 (cmpI a b)) ∧ Below W.heap.size W w' := fun ea eb W hW => by
  have := compare_any s' s (dig b.natAbs) (dig a.natAbs) (dig_Lm _) (dig_Lm _) W (g.below hW (Nat.le_refl _)) (h.below hW (Nat.le_refl _))
  rw [cmp_dig] at this
  have e : cmpN b.natAbs a.natAbs = cmpI a b := by
   have := of_decide_eq_true ea
   have := of_decide_eq_true eb
   unfold cmpN cmpI; split <;> split <;> (try split) <;> (try split) <;> omega
  rwa [e] at this
 have hw3 : decide (a < 0) = false → decide (b < 0) = false → ∀ W, Below w.heap.size w W → Calls Tryz.prog 142 #[s, s'] W fun e w' => e = .returned (.int .i64 (cmpI a b)) ∧ Below W.heap.size W w' := fun ea eb W hW => by
  have := compare_any s s' (dig a.natAbs) (dig b.natAbs) (dig_Lm _) (dig_Lm _) W (h.below hW (Nat.le_refl _)) (g.below hW (Nat.le_refl _))
  rw [cmp_dig] at this
  have e : cmpN a.natAbs b.natAbs = cmpI a b := by
   have := of_decide_eq_false ea
   have := of_decide_eq_false eb
   unfold cmpN cmpI; split <;> split <;> (try split) <;> (try split) <;> omega
  rwa [e] at this
 have h4 : decide (a < 0) = true → decide (b < 0) = false → cmpI a b = -1 := fun ea eb => by
  have := of_decide_eq_true ea
  have := of_decide_eq_false eb
  unfold cmpI; rw [if_pos (by omega)]
 have h5 : decide (a < 0) = false → decide (b < 0) = true → cmpI a b = 1 := fun ea eb => by
  have := of_decide_eq_false ea
  have := of_decide_eq_true eb
  unfold cmpI; rw [if_neg (by omega), if_pos (by omega)]
 obtain ⟨aa, ca, rfl⟩ := lim_slice h
 obtain ⟨ab, cb, rfl⟩ := lim_slice g
 exact cmp_walk _ _ aa ab _ ca _ cb _ w (Lib.hid hw1) (Lib.hid hw2) (Lib.hid hw3) (Lib.hid h4) (Lib.hid h5)
end Go.Proofs.YtmbcnfogjncdaaaGreat
