/-
'divided', where it divides; the greatest common divisor at a known value.
-/
import Derived.Test.YtodmbklednehbaaSz
import Derived.Test.YtodmbklednehbaaCutEnd
import Derived.Outline
namespace Go.Proofs.Ytodmbklednehbaa
open Go.RowKit Wh

theorem Gcd_known (va vb : Value) (a b z : Int) (hz : ((Int.gcd a b : Nat) : Int) = z) (ha : (dig a.natAbs).length ≤ 1024) (hb : (dig b.natAbs).length ≤ 1024) (hlen : (dig z.natAbs).length ≤ 1024) (w : World) (h : Num w va a) (g : Num w vb b) :
    Calls Try.prog 36 #[va, vb] w fun e w' => (∃ v, e = .returned (.tuple #[v, .int .i64 0]) ∧ NumF w.heap.size w' v z) ∧ Below w.heap.size w w' := by
  subst hz
  exact Gcd_ok va vb a b ha hb w h g hlen

theorem gcd_shift (a b c : Int) : Int.gcd (b + a * c) a = Int.gcd a b := by rw [Int.gcd_add_mul_left_left, Int.gcd_comm]
theorem gcd_scale (a b c : Int) : ((Int.gcd (a * c) (b * c) : Nat) : Int) = ((Int.gcd a b : Nat) : Int) * (c.natAbs : Int) := by
  show ((Nat.gcd (a * c).natAbs (b * c).natAbs : Nat) : Int) = _
  rw [Int.natAbs_mul, Int.natAbs_mul, Nat.gcd_mul_right]
  simp [Int.gcd]
theorem gcd_parts (a b : Int) (h : Int.gcd a b ≠ 0) : ∃ x y, a = x * ((Int.gcd a b : Nat) : Int) ∧ b = y * ((Int.gcd a b : Nat) : Int) ∧ Int.gcd x y = 1 ∧ x.natAbs ≤ a.natAbs ∧ y.natAbs ≤ b.natAbs := by
  obtain ⟨x, hx⟩ := Int.gcd_dvd_left a b
  obtain ⟨y, hy⟩ := Int.gcd_dvd_right a b
  rw [Int.mul_comm] at hx hy
  refine ⟨x, y, hx, hy, ?_, ?_, ?_⟩
  · have e : Int.gcd a b = Int.gcd x y * Int.gcd a b := by
      have h1 := gcd_scale x y ((Int.gcd a b : Nat) : Int)
      rw [← hx, ← hy, Int.natAbs_natCast] at h1
      exact_mod_cast h1
    have : 1 * Int.gcd a b = Int.gcd x y * Int.gcd a b := by rw [Nat.one_mul]; exact e
    exact (Nat.eq_of_mul_eq_mul_right (Nat.pos_of_ne_zero h) this).symm
  · have e : a.natAbs = x.natAbs * Int.gcd a b := by
      have := congrArg Int.natAbs hx
      rwa [Int.natAbs_mul, Int.natAbs_natCast] at this
    rw [e]; exact Nat.le_mul_of_pos_right _ (Nat.pos_of_ne_zero h)
  · have e : b.natAbs = y.natAbs * Int.gcd a b := by
      have := congrArg Int.natAbs hy
      rwa [Int.natAbs_mul, Int.natAbs_natCast] at this
    rw [e]; exact Nat.le_mul_of_pos_right _ (Nat.pos_of_ne_zero h)
theorem gcd_sz {n : Nat} {a b : Int} (sa : Sz n a) (sb : Sz n b) : Sz n ((Int.gcd a b : Nat) : Int) := by
  by_cases h : a = 0
  · subst h; rw [Int.gcd_zero_left]; exact Sz.of_lt (by rw [Int.natAbs_natCast]; exact sb.lt)
  · exact Sz.of_lt (by rw [Int.natAbs_natCast]; exact Nat.lt_of_le_of_lt (Nat.gcd_le_left _ (Int.natAbs_pos.2 h)) sa.lt)
theorem abs_sz {n : Nat} {c : Int} (sc : Sz n c) : Sz n (c.natAbs : Int) := Sz.of_lt (by rw [Int.natAbs_natCast]; exact sc.lt)
theorem le_sz {n : Nat} {x c : Int} (sc : Sz n c) (h : x.natAbs ≤ c.natAbs) : Sz n x := Sz.of_lt (Nat.lt_of_le_of_lt h sc.lt)
theorem gcd_le_left (a b : Int) (h : a ≠ 0) : Int.gcd a b ≤ a.natAbs := Nat.gcd_le_left _ (Int.natAbs_pos.2 h)

theorem DivMod_even (va vb : Value) (a b q : Int) (hd : a = q * b) (h0 : b ≠ 0) (ha : (dig a.natAbs).length ≤ 1024) (hb : (dig b.natAbs).length ≤ 1024) (w : World) (h : Num w va a) (g : Num w vb b) :
    Calls Try.prog 29 #[va, vb] w fun e w' => (∃ v v2, e = .returned (.tuple #[v, v2, .int .i64 0]) ∧ NumF w.heap.size w' v q ∧ NumF w.heap.size w' v2 0) ∧ Below w.heap.size w w' := by
  refine (DivMod_any va vb a b ha hb h0 w h g).mono ?_
  rintro e w' ⟨⟨v, v2, q', r', rfl, hr, h1, h2⟩, hB⟩
  obtain ⟨rfl, rfl⟩ := hr.uniq' (q' := q) (r' := 0) ⟨by omega, by omega⟩
  exact ⟨⟨_, _, rfl, h1, h2⟩, hB⟩

theorem abs_num {W : World} {b : Bool} {s : Value} {z : Int} (h : Num W (.agg #[.bool b, s]) z) : Num W (.agg #[.bool false, s]) (z.natAbs : Int) :=
  ⟨s, by rw [decide_eq_false (by omega)], by rw [Int.natAbs_natCast]; exact (neg_num h).2⟩

theorem then_below {W W' W'' : World} (h : Below W.heap.size W W') (hb : Below W'.heap.size W' W'') : Below W.heap.size W W'' := h.trans (hb.mono h.size)

theorem one_new {K : Nat} {wc wm : World} (hB : Below K wc wm) (hK : K ≤ wm.heap.size) (x y : Value) {v : Value} {z : Int} (g : Num wm v z) :
    Bx (wm.alloc (.cells #[x, y] 26)) wm.heap.size x y ∧ Num (wm.alloc (.cells #[x, y] 26)) v z ∧ Below K wc (wm.alloc (.cells #[x, y] 26)) :=
  ⟨Bx.new wm x y, g.below ((Below.refl wm.heap.size wm).alloc (Nat.le_refl _) _) (Nat.le_refl _), hB.alloc hK _⟩

theorem one_old {K X : Nat} {wc wm : World} (hB : Below K wc wm) (hX : K ≤ X) {b0 : Bool} {a0 : Option Addr} {k0 c0 : Nat} (hx : Bx wm X (.bool b0) (.slice a0 k0 c0)) (x y : Value) {v : Value} {z : Int} (g : Num wm v z) :
    Bx ((wm.setCell ⟨X, 0, none⟩ x).setCell ⟨X, 1, none⟩ y) X x y ∧ Num ((wm.setCell ⟨X, 0, none⟩ x).setCell ⟨X, 1, none⟩ y) v z ∧ Below K wc ((wm.setCell ⟨X, 0, none⟩ x).setCell ⟨X, 1, none⟩ y) :=
  ⟨hx.put x y, g.put hx x y, below_put2 hB hX x y⟩

set_option maxRecDepth 100000 in
set_option maxHeartbeats 1000000 in
theorem divided_any (va vb : Value) (a b q : Int) (hd : a = q * b) (hb0 : b ≠ 0) (ha : (dig a.natAbs).length ≤ 1024) (hb : (dig b.natAbs).length ≤ 1024) (w : World) (h' : Num w va a) (g' : Num w vb b) :
    Calls Try.prog 37 #[va, vb] w fun e w' => (∃ v, e = .returned v ∧ NumF w.heap.size w' v q) ∧ Below w.heap.size w w' := by
  obtain ⟨s, rfl, h⟩ := h'
  obtain ⟨s', rfl, g⟩ := g'
  have hw1 := fun W (hW : Below w.heap.size w W) => DivMod_even (.agg #[.bool (decide (a < 0)), s]) (.agg #[.bool (decide (b < 0)), s']) a b q hd hb0 ha hb W ⟨s, rfl, h.below hW (Nat.le_refl _)⟩ ⟨s', rfl, g.below hW (Nat.le_refl _)⟩
  have HW1 := Lib.hid hw1
  obtain ⟨aa, ca, rfl⟩ := lim_slice h
  obtain ⟨ab, cb, rfl⟩ := lim_slice g
  clear hw1 h g ha hb hd
  obtain ⟨ja, hja⟩ : ∃ n, n = (dig a.natAbs).length := ⟨_, rfl⟩
  obtain ⟨jb, hjb⟩ : ∃ n, n = (dig b.natAbs).length := ⟨_, rfl⟩
  obtain ⟨na, hna⟩ : ∃ n, n = decide (a < 0) := ⟨_, rfl⟩
  obtain ⟨nb, hnb⟩ : ∃ n, n = decide (b < 0) := ⟨_, rfl⟩
  rw [← hja, ← hna, ← hjb, ← hnb] at HW1
  rw [← hja, ← hna, ← hjb, ← hnb]
  clear hja hna hjb hnb
  have hz := (((Below.refl w.heap.size w).alloc (Nat.le_refl _) (.cells #[.bool na, .slice aa ja ca] 26)).alloc (by simp) (.cells #[.bool nb, .slice ab jb cb] 26)).alloc (by simp <;> omega) (.cells #[.bool false, .slice none 0 0] 26)
  have x4 := Bx.new ((w.alloc (.cells #[.bool na, .slice aa ja ca] 26)).alloc (.cells #[.bool nb, .slice ab jb cb] 26)) (.bool false) (.slice none 0 0)
  simp only [World.size_alloc] at x4
  go_enter Try.func37, Try.ntmps37
  go_wp2_with fail
  refine (HW1.out _ hz).mono ?_
  rintro e w1 ⟨⟨v, v2, rfl, hn, hn2⟩, hb1⟩
  obtain ⟨s2, rfl, hl⟩ := hn
  obtain ⟨a3, c3, rfl⟩ := lf_slice hl
  obtain ⟨s3, rfl, hl3⟩ := hn2
  obtain ⟨a4, c4, rfl⟩ := lf_slice hl3
  have hk0 : (dig (0 : Int).natAbs).length = 0 := by simp [dig_zero]
  rw [hk0]
  clear hl3 hk0
  have hB1 := hz.trans (hb1.mono hz.size)
  have y4 := x4.on hb1
  have c1 : decide ((0 : Int) > 0) = false := by decide
  have al := (((Below.refl w1.heap.size w1).alloc (Nat.le_refl _) (.cells #[.bool (decide (q < 0)), .slice a3 (dig q.natAbs).length c3] 26)).alloc (by simp) (.cells #[.bool false, .slice a4 0 c4] 26))
  have hlt := y4.lt
  have y5 := y4.on al
  obtain ⟨p4, p4'⟩ := y5.cells
  obtain ⟨f4, f4'⟩ := y5.free
  go_wp2
  obtain ⟨k4, k4'⟩ := (y5.put (.bool (decide (q < 0))) (.slice a3 (dig q.natAbs).length c3)).cells
  have hl2 := ((hl.below al).put (B' := w.heap.size + 1 + 1) (by simp <;> omega) (.bool (decide (q < 0))) (.slice a3 (dig q.natAbs).length c3)).mono hz.size
  have hBF := Below.put (hB1.trans (al.mono hB1.size)) (show w.heap.size ≤ w.heap.size + 1 + 1 by omega) (.bool (decide (q < 0))) (.slice a3 (dig q.natAbs).length c3)
  exact bodyPost_ret (v := .agg #[.bool (decide (q < 0)), .slice a3 (dig q.natAbs).length c3]) (by simp [results, Try.results37, go_sem, k4, k4']) rfl ⟨⟨_, rfl, _, rfl, hl2⟩, hBF⟩

end Go.Proofs.Ytodmbklednehbaa
