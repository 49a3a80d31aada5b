/- A part of the proofs about fractions. -/
import Derived.Outline
import Derived.Test.YtmbcnfogjncdaaaQWl9
set_option maxRecDepth 100000
set_option maxHeartbeats 1000000
namespace Go.Proofs.Ytmbcnfogjncdaaa
open Go.RowKit Wh
abbrev zeroW : Value := .agg #[.bool false, .slice none 0 0]
theorem vld_num (z : Int) (h : (dig z.natAbs).length ≤ 1024) : vld (decide (z < 0)) (dig z.natAbs) = true := by
  unfold vld
  split
  · rename_i e
    have := (dig_nil_iff _).1 e
    simp; omega
  · rename_i e
    have h0 : z.natAbs ≠ 0 := fun e' => e (by rw [e', dig_zero])
    have := dig_last_ne h0
    simp [h, this]
theorem row2_new (W : World) (b : Bool) (s : Value) (b' : Bool) (s' : Value) : Row2 (W.alloc (.cells #[.bool b, s, .bool b', s'] 26)) W.heap.size b s b' s' := by
 exact ⟨by simp, by simp, by simp, by simp⟩
theorem Add_bad (b : Bool) (s : Value) (l : List Nat) (b' : Bool) (s' : Value) (l' : List Nat) (w : World) (h : Lim w s l) (g : Lim w s' l') (hv : (vld b l && vld b' l') = false) :
  Calls Try.prog 5 #[.agg #[.bool b, s], .agg #[.bool b', s']] w fun e w' => e = .returned (.tuple #[zeroW, .int .i64 2]) ∧ Below w.heap.size w w' := by
 have hw1 := fun B W (hr : Row2 W B b s b' s') (hW : Below w.heap.size w W) => join_bad (.func (.func 17) #[] #[]) B b s l b' s' l' W hr (h.below hW (Nat.le_refl _)) (g.below hW (Nat.le_refl _)) hv
 have HW1 := Lib.hid hw1
 obtain ⟨aa, ca, rfl⟩ := lim_slice h
 obtain ⟨ab, cb, rfl⟩ := lim_slice g
 clear hw1 h g hv
 obtain ⟨ja, hja⟩ : ∃ n, n = l.length := ⟨_, rfl⟩
 obtain ⟨jb, hjb⟩ : ∃ n, n = l'.length := ⟨_, rfl⟩
 rw [← hja, ← hjb] at HW1 ⊢
 clear hja hjb
 have hz := ((((Below.refl w.heap.size w).alloc (Nat.le_refl _) (.cells #[.bool b, .slice aa ja ca] 26)).alloc (by simp) (.cells #[.bool b', .slice ab jb cb] 26)).alloc (by simp <;> omega) (.cells #[.bool false, .slice none 0 0] 26)).alloc (by simp <;> omega) (.cells #[.bool b, .slice aa ja ca, .bool b', .slice ab jb cb] 26)
 have x4 := (Bx.new ((w.alloc (.cells #[.bool b, .slice aa ja ca] 26)).alloc (.cells #[.bool b', .slice ab jb cb] 26)) (.bool false) (.slice none 0 0)).alloc (.cells #[.bool b, .slice aa ja ca, .bool b', .slice ab jb cb] 26)
 have hr := row2_new (((w.alloc (.cells #[.bool b, .slice aa ja ca] 26)).alloc (.cells #[.bool b', .slice ab jb cb] 26)).alloc (.cells #[.bool false, .slice none 0 0] 26)) b (.slice aa ja ca) b' (.slice ab jb cb)
 simp only [World.size_alloc] at x4 hr
 have HR := Lib.hid hr
 clear hr
 go_enter Try.func5, Try.ntmps5
 go_wp2_with (go_at_call 16; refine (HW1.out _ _ HR.out hz).mono ?_; rintro e w2 ⟨rfl, hb2⟩; have hB2 := hz.trans (hb2.mono hz.size); have z4 := x4.on hb2; obtain ⟨p4, p4'⟩ := z4.cells; obtain ⟨f4, f4'⟩ := z4.free)
 obtain ⟨k4, k4'⟩ := (z4.put (.bool false) (.slice none 0 0)).cells
 exact bodyPost_ret (v := .tuple #[zeroW, .int .i64 2]) (by simp [results, Try.results5, go_sem, k4, k4']) rfl ⟨rfl, Below.put hB2 (by omega) _ _⟩
theorem Add_ok (va vb : Value) (a b : Int) (ha : (dig a.natAbs).length ≤ 1024) (hb : (dig b.natAbs).length ≤ 1024) (w : World) (h' : Num w va a) (g' : Num w vb b) (hlen : (dig (a + b).natAbs).length ≤ 1024) :
  Calls Try.prog 5 #[va, vb] w fun e w' => (∃ v, e = .returned (.tuple #[v, .int .i64 0]) ∧ NumF w.heap.size w' v (a + b)) ∧ Below w.heap.size w w' := by
 obtain ⟨s, rfl, h⟩ := h'
 obtain ⟨s', rfl, g⟩ := g'
 have hw1 := fun B W (hr : Row2 W B (decide (a < 0)) s (decide (b < 0)) s') (hW : Below w.heap.size w W) => join_sum_ok B s s' a b (a + b) W hr (h.below hW (Nat.le_refl _)) (g.below hW (Nat.le_refl _)) (by rw [vld_num a ha, vld_num b hb]; rfl) hlen (fun va vb W h g => sum_any va vb a b (by omega) (by omega) W h g)
 have HW1 := Lib.hid hw1
 obtain ⟨aa, ca, rfl⟩ := lim_slice h
 obtain ⟨ab, cb, rfl⟩ := lim_slice g
 clear hw1 h g
 obtain ⟨ja, hja⟩ : ∃ n, n = (dig a.natAbs).length := ⟨_, rfl⟩
 obtain ⟨jb, hjb⟩ : ∃ n, n = (dig b.natAbs).length := ⟨_, rfl⟩
 obtain ⟨na, hna⟩ : ∃ n, n = decide (a < 0) := ⟨_, rfl⟩
 obtain ⟨nb, hnb⟩ : ∃ n, n = decide (b < 0) := ⟨_, rfl⟩
 obtain ⟨z, hzz⟩ : ∃ z : Int, z = a + b := ⟨_, rfl⟩
 rw [← hja, ← hjb, ← hna, ← hnb, ← hzz] at HW1
 rw [← hja, ← hjb, ← hna, ← hnb, ← hzz]
 clear hja hjb hna hnb hzz hlen ha hb
 have hz := ((((Below.refl w.heap.size w).alloc (Nat.le_refl _) (.cells #[.bool na, .slice aa ja ca] 26)).alloc (by simp) (.cells #[.bool nb, .slice ab jb cb] 26)).alloc (by simp <;> omega) (.cells #[.bool false, .slice none 0 0] 26)).alloc (by simp <;> omega) (.cells #[.bool na, .slice aa ja ca, .bool nb, .slice ab jb cb] 26)
 have x4 := (Bx.new ((w.alloc (.cells #[.bool na, .slice aa ja ca] 26)).alloc (.cells #[.bool nb, .slice ab jb cb] 26)) (.bool false) (.slice none 0 0)).alloc (.cells #[.bool na, .slice aa ja ca, .bool nb, .slice ab jb cb] 26)
 have hr := row2_new (((w.alloc (.cells #[.bool na, .slice aa ja ca] 26)).alloc (.cells #[.bool nb, .slice ab jb cb] 26)).alloc (.cells #[.bool false, .slice none 0 0] 26)) na (.slice aa ja ca) nb (.slice ab jb cb)
 simp only [World.size_alloc] at x4 hr
 have HR := Lib.hid hr
 clear hr
 go_enter Try.func5, Try.ntmps5
 go_wp2_with (go_at_call 16; refine (HW1.out _ _ HR.out hz).mono ?_; rintro e w2 ⟨⟨v, rfl, ⟨s2, rfl, hl⟩⟩, hb2⟩; obtain ⟨a3, c3, rfl⟩ := lf_slice hl; have hB2 := hz.trans (hb2.mono hz.size); have z4 := x4.on hb2; obtain ⟨p4, p4'⟩ := z4.cells; obtain ⟨f4, f4'⟩ := z4.free)
 obtain ⟨k4, k4'⟩ := (z4.put (.bool (decide (z < 0))) (.slice a3 (dig z.natAbs).length c3)).cells
 have hl3 := (hl.put (B' := w.heap.size + 1 + 1) (by simp <;> omega) (.bool (decide (z < 0))) (.slice a3 (dig z.natAbs).length c3)).mono hz.size
 exact bodyPost_ret (v := .tuple #[.agg #[.bool (decide (z < 0)), .slice a3 (dig z.natAbs).length c3], .int .i64 0]) (by simp [results, Try.results5, go_sem, k4, k4']) rfl ⟨⟨_, rfl, _, rfl, hl3⟩, Below.put hB2 (by omega) _ _⟩
theorem Add_long (va vb : Value) (a b : Int) (ha : (dig a.natAbs).length ≤ 1024) (hb : (dig b.natAbs).length ≤ 1024) (w : World) (h' : Num w va a) (g' : Num w vb b) (hlen : 1024 < (dig (a + b).natAbs).length) :
  Calls Try.prog 5 #[va, vb] w fun e w' => e = .returned (.tuple #[zeroW, .int .i64 3]) ∧ Below w.heap.size w w' := by
 obtain ⟨s, rfl, h⟩ := h'
 obtain ⟨s', rfl, g⟩ := g'
 have hw1 := fun B W (hr : Row2 W B (decide (a < 0)) s (decide (b < 0)) s') (hW : Below w.heap.size w W) => join_sum_long B s s' a b (a + b) W hr (h.below hW (Nat.le_refl _)) (g.below hW (Nat.le_refl _)) (by rw [vld_num a ha, vld_num b hb]; rfl) hlen (fun va vb W h g => sum_any va vb a b (by omega) (by omega) W h g)
 have HW1 := Lib.hid hw1
 obtain ⟨aa, ca, rfl⟩ := lim_slice h
 obtain ⟨ab, cb, rfl⟩ := lim_slice g
 clear hw1 h g
 obtain ⟨ja, hja⟩ : ∃ n, n = (dig a.natAbs).length := ⟨_, rfl⟩
 obtain ⟨jb, hjb⟩ : ∃ n, n = (dig b.natAbs).length := ⟨_, rfl⟩
 obtain ⟨na, hna⟩ : ∃ n, n = decide (a < 0) := ⟨_, rfl⟩
 obtain ⟨nb, hnb⟩ : ∃ n, n = decide (b < 0) := ⟨_, rfl⟩
 rw [← hja, ← hjb, ← hna, ← hnb] at HW1
 rw [← hja, ← hjb, ← hna, ← hnb]
 clear hja hjb hna hnb hlen ha hb
 have hz := ((((Below.refl w.heap.size w).alloc (Nat.le_refl _) (.cells #[.bool na, .slice aa ja ca] 26)).alloc (by simp) (.cells #[.bool nb, .slice ab jb cb] 26)).alloc (by simp <;> omega) (.cells #[.bool false, .slice none 0 0] 26)).alloc (by simp <;> omega) (.cells #[.bool na, .slice aa ja ca, .bool nb, .slice ab jb cb] 26)
 have x4 := (Bx.new ((w.alloc (.cells #[.bool na, .slice aa ja ca] 26)).alloc (.cells #[.bool nb, .slice ab jb cb] 26)) (.bool false) (.slice none 0 0)).alloc (.cells #[.bool na, .slice aa ja ca, .bool nb, .slice ab jb cb] 26)
 have hr := row2_new (((w.alloc (.cells #[.bool na, .slice aa ja ca] 26)).alloc (.cells #[.bool nb, .slice ab jb cb] 26)).alloc (.cells #[.bool false, .slice none 0 0] 26)) na (.slice aa ja ca) nb (.slice ab jb cb)
 simp only [World.size_alloc] at x4 hr
 have HR := Lib.hid hr
 clear hr
 go_enter Try.func5, Try.ntmps5
 go_wp2_with (go_at_call 16; refine (HW1.out _ _ HR.out hz).mono ?_; rintro e w2 ⟨rfl, hb2⟩; have hB2 := hz.trans (hb2.mono hz.size); have z4 := x4.on hb2; obtain ⟨p4, p4'⟩ := z4.cells; obtain ⟨f4, f4'⟩ := z4.free)
 obtain ⟨k4, k4'⟩ := (z4.put (.bool false) (.slice none 0 0)).cells
 exact bodyPost_ret (v := .tuple #[zeroW, .int .i64 3]) (by simp [results, Try.results5, go_sem, k4, k4']) rfl ⟨rfl, Below.put hB2 (by omega) _ _⟩
theorem Sub_bad (b : Bool) (s : Value) (l : List Nat) (b' : Bool) (s' : Value) (l' : List Nat) (w : World) (h : Lim w s l) (g : Lim w s' l') (hv : (vld b l && vld b' l') = false) :
  Calls Try.prog 6 #[.agg #[.bool b, s], .agg #[.bool b', s']] w fun e w' => e = .returned (.tuple #[zeroW, .int .i64 2]) ∧ Below w.heap.size w w' := by
 have hw1 := fun B W (hr : Row2 W B b s b' s') (hW : Below w.heap.size w W) => join_bad (.func (.func 18) #[] #[]) B b s l b' s' l' W hr (h.below hW (Nat.le_refl _)) (g.below hW (Nat.le_refl _)) hv
 have HW1 := Lib.hid hw1
 obtain ⟨aa, ca, rfl⟩ := lim_slice h
 obtain ⟨ab, cb, rfl⟩ := lim_slice g
 clear hw1 h g hv
 obtain ⟨ja, hja⟩ : ∃ n, n = l.length := ⟨_, rfl⟩
 obtain ⟨jb, hjb⟩ : ∃ n, n = l'.length := ⟨_, rfl⟩
 rw [← hja, ← hjb] at HW1 ⊢
 clear hja hjb
 have hz := ((((Below.refl w.heap.size w).alloc (Nat.le_refl _) (.cells #[.bool b, .slice aa ja ca] 26)).alloc (by simp) (.cells #[.bool b', .slice ab jb cb] 26)).alloc (by simp <;> omega) (.cells #[.bool false, .slice none 0 0] 26)).alloc (by simp <;> omega) (.cells #[.bool b, .slice aa ja ca, .bool b', .slice ab jb cb] 26)
 have x4 := (Bx.new ((w.alloc (.cells #[.bool b, .slice aa ja ca] 26)).alloc (.cells #[.bool b', .slice ab jb cb] 26)) (.bool false) (.slice none 0 0)).alloc (.cells #[.bool b, .slice aa ja ca, .bool b', .slice ab jb cb] 26)
 have hr := row2_new (((w.alloc (.cells #[.bool b, .slice aa ja ca] 26)).alloc (.cells #[.bool b', .slice ab jb cb] 26)).alloc (.cells #[.bool false, .slice none 0 0] 26)) b (.slice aa ja ca) b' (.slice ab jb cb)
 simp only [World.size_alloc] at x4 hr
 have HR := Lib.hid hr
 clear hr
 go_enter Try.func6, Try.ntmps6
 go_wp2_with (go_at_call 16; refine (HW1.out _ _ HR.out hz).mono ?_; rintro e w2 ⟨rfl, hb2⟩; have hB2 := hz.trans (hb2.mono hz.size); have z4 := x4.on hb2; obtain ⟨p4, p4'⟩ := z4.cells; obtain ⟨f4, f4'⟩ := z4.free)
 obtain ⟨k4, k4'⟩ := (z4.put (.bool false) (.slice none 0 0)).cells
 exact bodyPost_ret (v := .tuple #[zeroW, .int .i64 2]) (by simp [results, Try.results6, go_sem, k4, k4']) rfl ⟨rfl, Below.put hB2 (by omega) _ _⟩
theorem Sub_ok (va vb : Value) (a b : Int) (ha : (dig a.natAbs).length ≤ 1024) (hb : (dig b.natAbs).length ≤ 1024) (w : World) (h' : Num w va a) (g' : Num w vb b) (hlen : (dig (a - b).natAbs).length ≤ 1024) :
  Calls Try.prog 6 #[va, vb] w fun e w' => (∃ v, e = .returned (.tuple #[v, .int .i64 0]) ∧ NumF w.heap.size w' v (a - b)) ∧ Below w.heap.size w w' := by
 obtain ⟨s, rfl, h⟩ := h'
 obtain ⟨s', rfl, g⟩ := g'
 have hw1 := fun B W (hr : Row2 W B (decide (a < 0)) s (decide (b < 0)) s') (hW : Below w.heap.size w W) => join_difference_ok B s s' a b (a - b) W hr (h.below hW (Nat.le_refl _)) (g.below hW (Nat.le_refl _)) (by rw [vld_num a ha, vld_num b hb]; rfl) hlen (fun va vb W h g => difference_any va vb a b (by omega) (by omega) W h g)
 have HW1 := Lib.hid hw1
 obtain ⟨aa, ca, rfl⟩ := lim_slice h
 obtain ⟨ab, cb, rfl⟩ := lim_slice g
 clear hw1 h g
 obtain ⟨ja, hja⟩ : ∃ n, n = (dig a.natAbs).length := ⟨_, rfl⟩
 obtain ⟨jb, hjb⟩ : ∃ n, n = (dig b.natAbs).length := ⟨_, rfl⟩
 obtain ⟨na, hna⟩ : ∃ n, n = decide (a < 0) := ⟨_, rfl⟩
 obtain ⟨nb, hnb⟩ : ∃ n, n = decide (b < 0) := ⟨_, rfl⟩
 obtain ⟨z, hzz⟩ : ∃ z : Int, z = a - b := ⟨_, rfl⟩
 rw [← hja, ← hjb, ← hna, ← hnb, ← hzz] at HW1
 rw [← hja, ← hjb, ← hna, ← hnb, ← hzz]
 clear hja hjb hna hnb hzz hlen ha hb
 have hz := ((((Below.refl w.heap.size w).alloc (Nat.le_refl _) (.cells #[.bool na, .slice aa ja ca] 26)).alloc (by simp) (.cells #[.bool nb, .slice ab jb cb] 26)).alloc (by simp <;> omega) (.cells #[.bool false, .slice none 0 0] 26)).alloc (by simp <;> omega) (.cells #[.bool na, .slice aa ja ca, .bool nb, .slice ab jb cb] 26)
 have x4 := (Bx.new ((w.alloc (.cells #[.bool na, .slice aa ja ca] 26)).alloc (.cells #[.bool nb, .slice ab jb cb] 26)) (.bool false) (.slice none 0 0)).alloc (.cells #[.bool na, .slice aa ja ca, .bool nb, .slice ab jb cb] 26)
 have hr := row2_new (((w.alloc (.cells #[.bool na, .slice aa ja ca] 26)).alloc (.cells #[.bool nb, .slice ab jb cb] 26)).alloc (.cells #[.bool false, .slice none 0 0] 26)) na (.slice aa ja ca) nb (.slice ab jb cb)
 simp only [World.size_alloc] at x4 hr
 have HR := Lib.hid hr
 clear hr
 go_enter Try.func6, Try.ntmps6
 go_wp2_with (go_at_call 16; refine (HW1.out _ _ HR.out hz).mono ?_; rintro e w2 ⟨⟨v, rfl, ⟨s2, rfl, hl⟩⟩, hb2⟩; obtain ⟨a3, c3, rfl⟩ := lf_slice hl; have hB2 := hz.trans (hb2.mono hz.size); have z4 := x4.on hb2; obtain ⟨p4, p4'⟩ := z4.cells; obtain ⟨f4, f4'⟩ := z4.free)
 obtain ⟨k4, k4'⟩ := (z4.put (.bool (decide (z < 0))) (.slice a3 (dig z.natAbs).length c3)).cells
 have hl3 := (hl.put (B' := w.heap.size + 1 + 1) (by simp <;> omega) (.bool (decide (z < 0))) (.slice a3 (dig z.natAbs).length c3)).mono hz.size
 exact bodyPost_ret (v := .tuple #[.agg #[.bool (decide (z < 0)), .slice a3 (dig z.natAbs).length c3], .int .i64 0]) (by simp [results, Try.results6, go_sem, k4, k4']) rfl ⟨⟨_, rfl, _, rfl, hl3⟩, Below.put hB2 (by omega) _ _⟩
theorem Sub_long (va vb : Value) (a b : Int) (ha : (dig a.natAbs).length ≤ 1024) (hb : (dig b.natAbs).length ≤ 1024) (w : World) (h' : Num w va a) (g' : Num w vb b) (hlen : 1024 < (dig (a - b).natAbs).length) :
  Calls Try.prog 6 #[va, vb] w fun e w' => e = .returned (.tuple #[zeroW, .int .i64 3]) ∧ Below w.heap.size w w' := by
 obtain ⟨s, rfl, h⟩ := h'
 obtain ⟨s', rfl, g⟩ := g'
 have hw1 := fun B W (hr : Row2 W B (decide (a < 0)) s (decide (b < 0)) s') (hW : Below w.heap.size w W) => join_difference_long B s s' a b (a - b) W hr (h.below hW (Nat.le_refl _)) (g.below hW (Nat.le_refl _)) (by rw [vld_num a ha, vld_num b hb]; rfl) hlen (fun va vb W h g => difference_any va vb a b (by omega) (by omega) W h g)
 have HW1 := Lib.hid hw1
 obtain ⟨aa, ca, rfl⟩ := lim_slice h
 obtain ⟨ab, cb, rfl⟩ := lim_slice g
 clear hw1 h g
 obtain ⟨ja, hja⟩ : ∃ n, n = (dig a.natAbs).length := ⟨_, rfl⟩
 obtain ⟨jb, hjb⟩ : ∃ n, n = (dig b.natAbs).length := ⟨_, rfl⟩
 obtain ⟨na, hna⟩ : ∃ n, n = decide (a < 0) := ⟨_, rfl⟩
 obtain ⟨nb, hnb⟩ : ∃ n, n = decide (b < 0) := ⟨_, rfl⟩
 rw [← hja, ← hjb, ← hna, ← hnb] at HW1
 rw [← hja, ← hjb, ← hna, ← hnb]
 clear hja hjb hna hnb hlen ha hb
 have hz := ((((Below.refl w.heap.size w).alloc (Nat.le_refl _) (.cells #[.bool na, .slice aa ja ca] 26)).alloc (by simp) (.cells #[.bool nb, .slice ab jb cb] 26)).alloc (by simp <;> omega) (.cells #[.bool false, .slice none 0 0] 26)).alloc (by simp <;> omega) (.cells #[.bool na, .slice aa ja ca, .bool nb, .slice ab jb cb] 26)
 have x4 := (Bx.new ((w.alloc (.cells #[.bool na, .slice aa ja ca] 26)).alloc (.cells #[.bool nb, .slice ab jb cb] 26)) (.bool false) (.slice none 0 0)).alloc (.cells #[.bool na, .slice aa ja ca, .bool nb, .slice ab jb cb] 26)
 have hr := row2_new (((w.alloc (.cells #[.bool na, .slice aa ja ca] 26)).alloc (.cells #[.bool nb, .slice ab jb cb] 26)).alloc (.cells #[.bool false, .slice none 0 0] 26)) na (.slice aa ja ca) nb (.slice ab jb cb)
 simp only [World.size_alloc] at x4 hr
 have HR := Lib.hid hr
 clear hr
 go_enter Try.func6, Try.ntmps6
 go_wp2_with (go_at_call 16; refine (HW1.out _ _ HR.out hz).mono ?_; rintro e w2 ⟨rfl, hb2⟩; have hB2 := hz.trans (hb2.mono hz.size); have z4 := x4.on hb2; obtain ⟨p4, p4'⟩ := z4.cells; obtain ⟨f4, f4'⟩ := z4.free)
 obtain ⟨k4, k4'⟩ := (z4.put (.bool false) (.slice none 0 0)).cells
 exact bodyPost_ret (v := .tuple #[zeroW, .int .i64 3]) (by simp [results, Try.results6, go_sem, k4, k4']) rfl ⟨rfl, Below.put hB2 (by omega) _ _⟩
theorem Mul_bad (b : Bool) (s : Value) (l : List Nat) (b' : Bool) (s' : Value) (l' : List Nat) (w : World) (h : Lim w s l) (g : Lim w s' l') (hv : (vld b l && vld b' l') = false) :
  Calls Try.prog 7 #[.agg #[.bool b, s], .agg #[.bool b', s']] w fun e w' => e = .returned (.tuple #[zeroW, .int .i64 2]) ∧ Below w.heap.size w w' := by
 have hw1 := fun B W (hr : Row2 W B b s b' s') (hW : Below w.heap.size w W) => join_bad (.func (.func 19) #[] #[]) B b s l b' s' l' W hr (h.below hW (Nat.le_refl _)) (g.below hW (Nat.le_refl _)) hv
 have HW1 := Lib.hid hw1
 obtain ⟨aa, ca, rfl⟩ := lim_slice h
 obtain ⟨ab, cb, rfl⟩ := lim_slice g
 clear hw1 h g hv
 obtain ⟨ja, hja⟩ : ∃ n, n = l.length := ⟨_, rfl⟩
 obtain ⟨jb, hjb⟩ : ∃ n, n = l'.length := ⟨_, rfl⟩
 rw [← hja, ← hjb] at HW1 ⊢
 clear hja hjb
 have hz := ((((Below.refl w.heap.size w).alloc (Nat.le_refl _) (.cells #[.bool b, .slice aa ja ca] 26)).alloc (by simp) (.cells #[.bool b', .slice ab jb cb] 26)).alloc (by simp <;> omega) (.cells #[.bool false, .slice none 0 0] 26)).alloc (by simp <;> omega) (.cells #[.bool b, .slice aa ja ca, .bool b', .slice ab jb cb] 26)
 have x4 := (Bx.new ((w.alloc (.cells #[.bool b, .slice aa ja ca] 26)).alloc (.cells #[.bool b', .slice ab jb cb] 26)) (.bool false) (.slice none 0 0)).alloc (.cells #[.bool b, .slice aa ja ca, .bool b', .slice ab jb cb] 26)
 have hr := row2_new (((w.alloc (.cells #[.bool b, .slice aa ja ca] 26)).alloc (.cells #[.bool b', .slice ab jb cb] 26)).alloc (.cells #[.bool false, .slice none 0 0] 26)) b (.slice aa ja ca) b' (.slice ab jb cb)
 simp only [World.size_alloc] at x4 hr
 have HR := Lib.hid hr
 clear hr
 go_enter Try.func7, Try.ntmps7
 go_wp2_with (go_at_call 16; refine (HW1.out _ _ HR.out hz).mono ?_; rintro e w2 ⟨rfl, hb2⟩; have hB2 := hz.trans (hb2.mono hz.size); have z4 := x4.on hb2; obtain ⟨p4, p4'⟩ := z4.cells; obtain ⟨f4, f4'⟩ := z4.free)
 obtain ⟨k4, k4'⟩ := (z4.put (.bool false) (.slice none 0 0)).cells
 exact bodyPost_ret (v := .tuple #[zeroW, .int .i64 2]) (by simp [results, Try.results7, go_sem, k4, k4']) rfl ⟨rfl, Below.put hB2 (by omega) _ _⟩
theorem Mul_ok (va vb : Value) (a b : Int) (ha : (dig a.natAbs).length ≤ 1024) (hb : (dig b.natAbs).length ≤ 1024) (w : World) (h' : Num w va a) (g' : Num w vb b) (hlen : (dig (a * b).natAbs).length ≤ 1024) :
  Calls Try.prog 7 #[va, vb] w fun e w' => (∃ v, e = .returned (.tuple #[v, .int .i64 0]) ∧ NumF w.heap.size w' v (a * b)) ∧ Below w.heap.size w w' := by
 obtain ⟨s, rfl, h⟩ := h'
 obtain ⟨s', rfl, g⟩ := g'
 have hw1 := fun B W (hr : Row2 W B (decide (a < 0)) s (decide (b < 0)) s') (hW : Below w.heap.size w W) => join_product_ok B s s' a b (a * b) W hr (h.below hW (Nat.le_refl _)) (g.below hW (Nat.le_refl _)) (by rw [vld_num a ha, vld_num b hb]; rfl) hlen (fun va vb W h g => product_any va vb a b (by omega) (by omega) W h g)
 have HW1 := Lib.hid hw1
 obtain ⟨aa, ca, rfl⟩ := lim_slice h
 obtain ⟨ab, cb, rfl⟩ := lim_slice g
 clear hw1 h g
 obtain ⟨ja, hja⟩ : ∃ n, n = (dig a.natAbs).length := ⟨_, rfl⟩
 obtain ⟨jb, hjb⟩ : ∃ n, n = (dig b.natAbs).length := ⟨_, rfl⟩
 obtain ⟨na, hna⟩ : ∃ n, n = decide (a < 0) := ⟨_, rfl⟩
 obtain ⟨nb, hnb⟩ : ∃ n, n = decide (b < 0) := ⟨_, rfl⟩
 obtain ⟨z, hzz⟩ : ∃ z : Int, z = a * b := ⟨_, rfl⟩
 rw [← hja, ← hjb, ← hna, ← hnb, ← hzz] at HW1
 rw [← hja, ← hjb, ← hna, ← hnb, ← hzz]
 clear hja hjb hna hnb hzz hlen ha hb
 have hz := ((((Below.refl w.heap.size w).alloc (Nat.le_refl _) (.cells #[.bool na, .slice aa ja ca] 26)).alloc (by simp) (.cells #[.bool nb, .slice ab jb cb] 26)).alloc (by simp <;> omega) (.cells #[.bool false, .slice none 0 0] 26)).alloc (by simp <;> omega) (.cells #[.bool na, .slice aa ja ca, .bool nb, .slice ab jb cb] 26)
 have x4 := (Bx.new ((w.alloc (.cells #[.bool na, .slice aa ja ca] 26)).alloc (.cells #[.bool nb, .slice ab jb cb] 26)) (.bool false) (.slice none 0 0)).alloc (.cells #[.bool na, .slice aa ja ca, .bool nb, .slice ab jb cb] 26)
 have hr := row2_new (((w.alloc (.cells #[.bool na, .slice aa ja ca] 26)).alloc (.cells #[.bool nb, .slice ab jb cb] 26)).alloc (.cells #[.bool false, .slice none 0 0] 26)) na (.slice aa ja ca) nb (.slice ab jb cb)
 simp only [World.size_alloc] at x4 hr
 have HR := Lib.hid hr
 clear hr
 go_enter Try.func7, Try.ntmps7
 go_wp2_with (go_at_call 16; refine (HW1.out _ _ HR.out hz).mono ?_; rintro e w2 ⟨⟨v, rfl, ⟨s2, rfl, hl⟩⟩, hb2⟩; obtain ⟨a3, c3, rfl⟩ := lf_slice hl; have hB2 := hz.trans (hb2.mono hz.size); have z4 := x4.on hb2; obtain ⟨p4, p4'⟩ := z4.cells; obtain ⟨f4, f4'⟩ := z4.free)
 obtain ⟨k4, k4'⟩ := (z4.put (.bool (decide (z < 0))) (.slice a3 (dig z.natAbs).length c3)).cells
 have hl3 := (hl.put (B' := w.heap.size + 1 + 1) (by simp <;> omega) (.bool (decide (z < 0))) (.slice a3 (dig z.natAbs).length c3)).mono hz.size
 exact bodyPost_ret (v := .tuple #[.agg #[.bool (decide (z < 0)), .slice a3 (dig z.natAbs).length c3], .int .i64 0]) (by simp [results, Try.results7, go_sem, k4, k4']) rfl ⟨⟨_, rfl, _, rfl, hl3⟩, Below.put hB2 (by omega) _ _⟩
theorem Mul_long (va vb : Value) (a b : Int) (ha : (dig a.natAbs).length ≤ 1024) (hb : (dig b.natAbs).length ≤ 1024) (w : World) (h' : Num w va a) (g' : Num w vb b) (hlen : 1024 < (dig (a * b).natAbs).length) :
  Calls Try.prog 7 #[va, vb] w fun e w' => e = .returned (.tuple #[zeroW, .int .i64 3]) ∧ Below w.heap.size w w' := by
 obtain ⟨s, rfl, h⟩ := h'
 obtain ⟨s', rfl, g⟩ := g'
 have hw1 := fun B W (hr : Row2 W B (decide (a < 0)) s (decide (b < 0)) s') (hW : Below w.heap.size w W) => join_product_long B s s' a b (a * b) W hr (h.below hW (Nat.le_refl _)) (g.below hW (Nat.le_refl _)) (by rw [vld_num a ha, vld_num b hb]; rfl) hlen (fun va vb W h g => product_any va vb a b (by omega) (by omega) W h g)
 have HW1 := Lib.hid hw1
 obtain ⟨aa, ca, rfl⟩ := lim_slice h
 obtain ⟨ab, cb, rfl⟩ := lim_slice g
 clear hw1 h g
 obtain ⟨ja, hja⟩ : ∃ n, n = (dig a.natAbs).length := ⟨_, rfl⟩
 obtain ⟨jb, hjb⟩ : ∃ n, n = (dig b.natAbs).length := ⟨_, rfl⟩
 obtain ⟨na, hna⟩ : ∃ n, n = decide (a < 0) := ⟨_, rfl⟩
 obtain ⟨nb, hnb⟩ : ∃ n, n = decide (b < 0) := ⟨_, rfl⟩
 rw [← hja, ← hjb, ← hna, ← hnb] at HW1
 rw [← hja, ← hjb, ← hna, ← hnb]
 clear hja hjb hna hnb hlen ha hb
 have hz := ((((Below.refl w.heap.size w).alloc (Nat.le_refl _) (.cells #[.bool na, .slice aa ja ca] 26)).alloc (by simp) (.cells #[.bool nb, .slice ab jb cb] 26)).alloc (by simp <;> omega) (.cells #[.bool false, .slice none 0 0] 26)).alloc (by simp <;> omega) (.cells #[.bool na, .slice aa ja ca, .bool nb, .slice ab jb cb] 26)
 have x4 := (Bx.new ((w.alloc (.cells #[.bool na, .slice aa ja ca] 26)).alloc (.cells #[.bool nb, .slice ab jb cb] 26)) (.bool false) (.slice none 0 0)).alloc (.cells #[.bool na, .slice aa ja ca, .bool nb, .slice ab jb cb] 26)
 have hr := row2_new (((w.alloc (.cells #[.bool na, .slice aa ja ca] 26)).alloc (.cells #[.bool nb, .slice ab jb cb] 26)).alloc (.cells #[.bool false, .slice none 0 0] 26)) na (.slice aa ja ca) nb (.slice ab jb cb)
 simp only [World.size_alloc] at x4 hr
 have HR := Lib.hid hr
 clear hr
 go_enter Try.func7, Try.ntmps7
 go_wp2_with (go_at_call 16; refine (HW1.out _ _ HR.out hz).mono ?_; rintro e w2 ⟨rfl, hb2⟩; have hB2 := hz.trans (hb2.mono hz.size); have z4 := x4.on hb2; obtain ⟨p4, p4'⟩ := z4.cells; obtain ⟨f4, f4'⟩ := z4.free)
 obtain ⟨k4, k4'⟩ := (z4.put (.bool false) (.slice none 0 0)).cells
 exact bodyPost_ret (v := .tuple #[zeroW, .int .i64 3]) (by simp [results, Try.results7, go_sem, k4, k4']) rfl ⟨rfl, Below.put hB2 (by omega) _ _⟩
theorem Gcd_ok (va vb : Value) (a b : Int) (ha : (dig a.natAbs).length ≤ 1024) (hb : (dig b.natAbs).length ≤ 1024) (w : World) (h' : Num w va a) (g' : Num w vb b) (hlen : (dig (((Nat.gcd a.natAbs b.natAbs : Nat) : Int)).natAbs).length ≤ 1024) :
  Calls Try.prog 30 #[va, vb] w fun e w' => (∃ v, e = .returned (.tuple #[v, .int .i64 0]) ∧ NumF w.heap.size w' v (((Nat.gcd a.natAbs b.natAbs : Nat) : Int))) ∧ Below w.heap.size w w' := by
 obtain ⟨s, rfl, h⟩ := h'
 obtain ⟨s', rfl, g⟩ := g'
 have hw1 := fun B W (hr : Row2 W B (decide (a < 0)) s (decide (b < 0)) s') (hW : Below w.heap.size w W) => join_divisor_ok B s s' a b (((Nat.gcd a.natAbs b.natAbs : Nat) : Int)) W hr (h.below hW (Nat.le_refl _)) (g.below hW (Nat.le_refl _)) (by rw [vld_num a ha, vld_num b hb]; rfl) hlen (fun va vb W h g => divisor_any va vb a b (by omega) (by omega) W h g)
 have HW1 := Lib.hid hw1
 obtain ⟨aa, ca, rfl⟩ := lim_slice h
 obtain ⟨ab, cb, rfl⟩ := lim_slice g
 clear hw1 h g
 obtain ⟨ja, hja⟩ : ∃ n, n = (dig a.natAbs).length := ⟨_, rfl⟩
 obtain ⟨jb, hjb⟩ : ∃ n, n = (dig b.natAbs).length := ⟨_, rfl⟩
 obtain ⟨na, hna⟩ : ∃ n, n = decide (a < 0) := ⟨_, rfl⟩
 obtain ⟨nb, hnb⟩ : ∃ n, n = decide (b < 0) := ⟨_, rfl⟩
 obtain ⟨z, hzz⟩ : ∃ z : Int, z = ((Nat.gcd a.natAbs b.natAbs : Nat) : Int) := ⟨_, rfl⟩
 rw [← hja, ← hjb, ← hna, ← hnb, ← hzz] at HW1
 rw [← hja, ← hjb, ← hna, ← hnb, ← hzz]
 clear hja hjb hna hnb hzz hlen ha hb
 have hz := ((((Below.refl w.heap.size w).alloc (Nat.le_refl _) (.cells #[.bool na, .slice aa ja ca] 26)).alloc (by simp) (.cells #[.bool nb, .slice ab jb cb] 26)).alloc (by simp <;> omega) (.cells #[.bool false, .slice none 0 0] 26)).alloc (by simp <;> omega) (.cells #[.bool na, .slice aa ja ca, .bool nb, .slice ab jb cb] 26)
 have x4 := (Bx.new ((w.alloc (.cells #[.bool na, .slice aa ja ca] 26)).alloc (.cells #[.bool nb, .slice ab jb cb] 26)) (.bool false) (.slice none 0 0)).alloc (.cells #[.bool na, .slice aa ja ca, .bool nb, .slice ab jb cb] 26)
 have hr := row2_new (((w.alloc (.cells #[.bool na, .slice aa ja ca] 26)).alloc (.cells #[.bool nb, .slice ab jb cb] 26)).alloc (.cells #[.bool false, .slice none 0 0] 26)) na (.slice aa ja ca) nb (.slice ab jb cb)
 simp only [World.size_alloc] at x4 hr
 have HR := Lib.hid hr
 clear hr
 go_enter Try.func30, Try.ntmps30
 go_wp2_with (go_at_call 16; refine (HW1.out _ _ HR.out hz).mono ?_; rintro e w2 ⟨⟨v, rfl, ⟨s2, rfl, hl⟩⟩, hb2⟩; obtain ⟨a3, c3, rfl⟩ := lf_slice hl; have hB2 := hz.trans (hb2.mono hz.size); have z4 := x4.on hb2; obtain ⟨p4, p4'⟩ := z4.cells; obtain ⟨f4, f4'⟩ := z4.free)
 obtain ⟨k4, k4'⟩ := (z4.put (.bool (decide (z < 0))) (.slice a3 (dig z.natAbs).length c3)).cells
 have hl3 := (hl.put (B' := w.heap.size + 1 + 1) (by simp <;> omega) (.bool (decide (z < 0))) (.slice a3 (dig z.natAbs).length c3)).mono hz.size
 exact bodyPost_ret (v := .tuple #[.agg #[.bool (decide (z < 0)), .slice a3 (dig z.natAbs).length c3], .int .i64 0]) (by simp [results, Try.results30, go_sem, k4, k4']) rfl ⟨⟨_, rfl, _, rfl, hl3⟩, Below.put hB2 (by omega) _ _⟩
end Go.Proofs.Ytmbcnfogjncdaaa
namespace Go.Proofs.Ytmbcnfogjncdaaa
open Go.RowKit Wh
theorem num_sign (n : Int) : (decide (n < 0) && decide (dig n.natAbs ≠ [])) = decide (n < 0) := by
 rw [Bool.eq_iff_iff]
 simp [dig_nil_iff]
 omega
theorem FromInt_any (n : Int) (h1 : -9223372036854775808 ≤ n) (h2 : n ≤ 9223372036854775807) (w : World) :
    Calls Try.prog 44 #[.int .i64 n] w fun e w' => (∃ v, e = .returned v ∧ NumF w.heap.size w' v n) ∧ Below w.heap.size w w' := by
  have hw1 := fun W => limbsOf_any n.natAbs (by omega) W
  have hw2 := fun W s (hl : Lim W s (dig n.natAbs)) => number_any (decide (n < 0)) s _ W hl
  rw [num_sign] at hw2
  have HW1 := Lib.hid hw1
  have HW2 := Lib.hid hw2
  clear hw1 hw2
  have hz := (Below.refl w.heap.size w).alloc (Nat.le_refl _) (.cells #[.bool false, .slice none 0 0] 26)
  have x4 := Bx.new w (.bool false) (.slice none 0 0)
  have fin : ∀ {w2 w3 : World} {a3 c3}, LimF (w.alloc (.cells #[.bool false, .slice none 0 0] 26)).heap.size w2 (.slice a3 (dig n.natAbs).length c3) (dig n.natAbs) → Below w2.heap.size w2 w3 →
      NumF w.heap.size ((w3.setCell ⟨w.heap.size, 0, none⟩ (.bool (decide (n < 0)))).setCell ⟨w.heap.size, 1, none⟩ (.slice a3 (dig n.natAbs).length c3)) (.agg #[.bool (decide (n < 0)), .slice a3 (dig n.natAbs).length c3]) n := fun hl hb =>
    ⟨_, rfl, ((hl.below hb).put (B' := w.heap.size) (by simp) (.bool (decide (n < 0))) _).mono hz.size⟩
  have FIN := @fin
  clear fin
  rcases Int.lt_or_le n 0 with h0 | h0
  · have e1 : decide (n < 0) = true := decide_eq_true h0
    have e2 : IntKind.u64.wrap (-IntKind.u64.wrap n) = ((n.natAbs : Nat) : Int) := by rw [IntKind.wrap_u64, IntKind.wrap_u64]; omega
    rw [← e2] at HW1
    rw [e1] at HW2 FIN
    clear e1 e2
    go_enter Try.func44, Try.ntmps44
    go_wp2_with (first
      | (go_at_call 46; refine (HW1.out _).mono ?_; rintro e w2 ⟨⟨s, rfl, hl⟩, hb2⟩; obtain ⟨a3, c3, rfl⟩ := lf_slice hl; have hB2 := hz.trans (hb2.mono hz.size); have z4 := x4.on hb2)
      | (go_at_call 34; refine (HW2.out _ _ hl.1).mono ?_; rintro e w3 ⟨rfl, hb3⟩; have hB3 := hB2.trans (hb3.mono hB2.size); have v4 := z4.on hb3; obtain ⟨p4, p4'⟩ := v4.cells; obtain ⟨f4, f4'⟩ := v4.free))
    obtain ⟨k4, k4'⟩ := (v4.put (.bool true) (.slice a3 (dig n.natAbs).length c3)).cells
    exact bodyPost_ret (v := .agg #[.bool true, .slice a3 (dig n.natAbs).length c3]) (by simp [results, Try.results44, go_sem, k4, k4']) rfl ⟨⟨_, rfl, FIN hl hb3⟩, Below.put hB3 (Nat.le_refl _) _ _⟩
  · have e2 : n = ((n.natAbs : Nat) : Int) := by omega
    have HW1' : Hid (∀ W : World, Calls Try.prog 46 #[.int .u64 n] W fun e w' => (∃ v', e = .returned v' ∧ LimF W.heap.size w' v' (dig n.natAbs)) ∧ Below W.heap.size W w') := by
      rw [← e2] at HW1; exact HW1
    clear e2 HW1
    go_enter Try.func44, Try.ntmps44
    go_wp2_with (first
      | (go_at_call 46; refine (HW1'.out _).mono ?_; rintro e w2 ⟨⟨s, rfl, hl⟩, hb2⟩; obtain ⟨a3, c3, rfl⟩ := lf_slice hl; have hB2 := hz.trans (hb2.mono hz.size); have z4 := x4.on hb2)
      | (go_at_call 34; refine (HW2.out _ _ hl.1).mono ?_; rintro e w3 ⟨rfl, hb3⟩; have hB3 := hB2.trans (hb3.mono hB2.size); have v4 := z4.on hb3; obtain ⟨p4, p4'⟩ := v4.cells; obtain ⟨f4, f4'⟩ := v4.free))
    obtain ⟨k4, k4'⟩ := (v4.put (.bool (decide (n < 0))) (.slice a3 (dig n.natAbs).length c3)).cells
    exact bodyPost_ret (v := .agg #[.bool (decide (n < 0)), .slice a3 (dig n.natAbs).length c3]) (by simp [results, Try.results44, go_sem, k4, k4']) rfl ⟨⟨_, rfl, FIN hl hb3⟩, Below.put hB3 (Nat.le_refl _) _ _⟩
end Go.Proofs.Ytmbcnfogjncdaaa
