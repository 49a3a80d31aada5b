/- A part of the proofs about fractions. -/
import Derived.Test.YtmbcnfogjncdaaaQWl15
import Derived.Test.YtmbcnfogjncdaaaQWl19
set_option maxRecDepth 100000
set_option maxHeartbeats 1000000
namespace Go.Proofs.Ytmbcnfogjncdaaa
open Go.RowKit Wh
theorem Bk.under {W W' : World} {B n C T} (h : Bk W B C T) (hb : Below n W W') (hn : B < n) : Bk W' B C T := (hb.block B hn).trans h
theorem kPick_any (x n : Int) (hn : 1 ≤ n) (hn2 : n ≤ 1000000000) (w : World) : Calls Try.prog 4 #[.int .i64 x, .int .i64 n] w fun e w' => e = .returned (.int .i64 (x % n)) ∧ w = w' := by
  have hb : -n < x.tmod n ∧ x.tmod n < n := ⟨Int.lt_tmod_of_pos _ (by omega), Int.tmod_lt_of_pos _ (by omega)⟩
  have hz : n ≠ 0 := by omega
  have hz' : ¬ n = 0 := hz
  by_cases h : x.tmod n < 0
  · have HE := Lib.hid (show x % n = x.tmod n + n by
      have h1 := Int.emod_nonneg x hz
      have h2 := Int.emod_lt_of_pos x (show 0 < n by omega)
      have h3 := Int.tmod_add_mul_tdiv x n
      have h4 := Int.emod_add_mul_ediv x n
      have h5 : x.tmod n + n = x % n + n * (x / n - x.tdiv n + 1) := by rw [Int.mul_add, Int.mul_sub]; omega
      have h6 : n * (x / n - x.tdiv n + 1) < n := by omega
      have h7 : -n < n * (x / n - x.tdiv n + 1) := by omega
      have h8 : x / n - x.tdiv n + 1 < 1 := Int.lt_of_mul_lt_mul_left (a := n) (by omega) (by omega)
      have h9 : -1 < x / n - x.tdiv n + 1 := Int.lt_of_mul_lt_mul_left (a := n) (by omega) (by omega)
      have : x / n - x.tdiv n + 1 = 0 := by omega
      rw [this] at h5
      omega)
    go_enter Try.func4, Try.ntmps4
    go_wp2
    go_ret
    exact ⟨by rw [HE.out]; rfl, rfl⟩
  · have HE := Lib.hid (show x % n = x.tmod n by
      have h1 := Int.emod_nonneg x hz
      have h2 := Int.emod_lt_of_pos x (show 0 < n by omega)
      have h3 := Int.tmod_add_mul_tdiv x n
      have h4 := Int.emod_add_mul_ediv x n
      have h5 : x.tmod n = x % n + n * (x / n - x.tdiv n) := by rw [Int.mul_sub]; omega
      have h6 : n * (x / n - x.tdiv n) < n := by omega
      have h7 : -n < n * (x / n - x.tdiv n) := by omega
      have h8 : x / n - x.tdiv n < 1 := Int.lt_of_mul_lt_mul_left (a := n) (by omega) (by omega)
      have h9 : -1 < x / n - x.tdiv n := Int.lt_of_mul_lt_mul_left (a := n) (by omega) (by omega)
      have : x / n - x.tdiv n = 0 := by omega
      rw [this] at h5
      omega)
    go_enter Try.func4, Try.ntmps4
    go_wp2
    go_ret
    exact ⟨by rw [HE.out]; rfl, rfl⟩
def WlRel (base A B : Nat) (c0 : Value) (C : Array Value) (m y : Nat) (w : World) (i : Value) (wr : World) : Prop :=
 ∃ (j : Nat) (s : Value), j ≤ m ∧ i = .int .i64 (j : Int) ∧ Bk wr A #[c0, s] 26 ∧ Bk wr B C 26 ∧ wr.ownsRow base 22 1 s j (cellsOf (List.replicate j y)) ∧ Below w.heap.size w wr
theorem dv_pos10 {m : Nat} {z : Int} : (z * 10 ^ m).natAbs = z.natAbs * 10 ^ m := by rw [Int.natAbs_mul, Int.natAbs_pow]; rfl
theorem txt_more {z : Int} (hz : z ≠ 0) : txt z ++ [48] = txt (z * 10) := by
 obtain ⟨h1, h2, -⟩ := txt_snoc hz (d := 0) (by omega)
 have h3 := txt_back h1
 rw [h2] at h3
 have e : dbyte 0 = 48 := rfl
 rw [e] at h3
 rw [← h3]
 congr 1
 split <;> simp
theorem txt_more2 {z : Int} (hz : z ≠ 0) (m : Nat) : txt (z * 10 ^ m) ++ [48] = txt (z * 10 ^ (m + 1)) := by
 rw [txt_more (Int.mul_ne_zero hz (Int.pow_ne_zero (by decide))), Int.pow_succ, Int.mul_assoc]
theorem Parse_back (s : ByteArray) (z : Int) (hs : s.data.toList = txt z) (hn : s.data.toList.length ≤ 5120) (hz : (dig z.natAbs).length ≤ 1024) (w : World) :
  Calls Try.prog 15 #[.string s] w fun e w' => (∃ b a k c, e = .returned (.tuple #[.agg #[.bool b, .slice a k c], .int .i64 0]) ∧ Num w' (.agg #[.bool b, .slice a k c]) z) ∧ Below w.heap.size w w' := by
 obtain ⟨h1, h2, -, h4⟩ := txt_wf z
 exact Parse_known s (txt z) z hs (by rw [← hs]; exact hn) h1 h2 (by rw [h4]; exact hz) w
theorem Parse_over (s : ByteArray) (z : Int) (hs : s.data.toList = txt z) (hn : s.size ≤ maxLen) (hz : 1024 < (dig z.natAbs).length) (w : World) :
  Calls Try.prog 15 #[.string s] w fun e w' => e = .returned (.tuple #[.agg #[.bool false, .slice none 0 0], .int .i64 3]) ∧ Below w.heap.size w w' := by
 obtain ⟨h1, h2, -, h4⟩ := txt_wf z
 refine (Parse_any s hn w).mono ?_
 rintro e w' ⟨h, hB⟩
 refine ⟨?_, hB⟩
 rw [hs] at h
 rcases h with h | h | h
 · rw [h1] at h; exact absurd h.1 (by decide)
 · exact h.2.2
 · rw [h4] at h; exact absurd h.2.1 (by omega)
theorem txt_len10 {z : Int} (m : Nat) (h : z.natAbs < 10 ^ m) : (txt z).length ≤ m + 1 := by
  unfold txt
  split
  · simp
  · have h1 : (Wt.dig z.natAbs).length ≤ m := Wt.length_dig_le z.natAbs m |>.2 h
    split <;> simp <;> omega
theorem lim_big : (65536 : Nat) ^ 1024 < 10 ^ 4933 := by decide +kernel
theorem lim_big2 : (65536 : Nat) ^ 1024 ≤ 65536 ^ 999 * 10 ^ 200 := by decide +kernel
theorem wl_len {z : Int} (h : (dig z.natAbs).length ≤ 1024) : (txt z).length ≤ 4934 :=
 txt_len10 4933 (Nat.lt_trans ((length_dig_le _ _).1 h) lim_big)
theorem wl_over_gen {z : Int} (a m t : Nat) (hc : 65536 ^ t ≤ 65536 ^ a * 10 ^ m) (h : a < (dig z.natAbs).length) : t < (dig (z * 10 ^ m).natAbs).length := by
 have h1 : 65536 ^ a ≤ z.natAbs := Nat.le_of_not_lt fun h2 => absurd ((length_dig_le z.natAbs a).2 h2) (Nat.not_le.2 h)
 refine Nat.lt_of_not_le fun h2 => ?_
 have h3 := (length_dig_le _ _).1 h2
 rw [dv_pos10] at h3
 exact absurd (Nat.lt_of_lt_of_le h3 hc) (Nat.not_lt.2 (Nat.mul_le_mul_right _ h1))
theorem wl_over {z : Int} (h : 1000 ≤ (dig z.natAbs).length) : 1024 < (dig (z * 10 ^ 200).natAbs).length :=
 wl_over_gen 999 200 1024 lim_big2 (Nat.lt_of_lt_of_le (by decide) h)
theorem refSame_zz (w : World) : Calls Try.prog 25 #[.agg #[.bool false, .slice none 0 0], .agg #[.bool false, .slice none 0 0]] w fun e w' => e = .returned (.bool true) ∧ Below w.heap.size w w' := by
 have h : Num w (.agg #[.bool false, .slice none 0 0]) 0 := ⟨.slice none 0 0, rfl, by rw [show (0 : Int).natAbs = 0 from rfl, dig_zero]; exact Lim.nil w⟩
 have := refSame_num _ _ 0 0 w h h
 simpa using this
theorem refSame_eq (va vb : Value) (z : Int) (w : World) (h : Num w va z) (g : Num w vb z) : Calls Try.prog 25 #[va, vb] w fun e w' => e = .returned (.bool true) ∧ Below w.heap.size w w' := by
 have := refSame_num va vb z z w h g
 simpa using this
theorem law1same_true (bx : Bool) (ax : Option Addr) (kx cx : Nat) (bv : Bool) (av : Option Addr) (kv cv : Nat) (c : Int) (w : World) (hs : ∀ W, Below w.heap.size w W → Calls Try.prog 25 #[.agg #[.bool bx, .slice ax kx cx], .agg #[.bool bv, .slice av kv cv]] W fun e w' => e = .returned (.bool true) ∧ Below W.heap.size W w') :
  Calls Try.prog 11 #[.agg #[.bool bx, .slice ax kx cx], .int .i64 c, .agg #[.bool bv, .slice av kv cv], .int .i64 c] w fun e w' => e = .returned (.bool true) ∧ Below w.heap.size w w' := by
 have HS := Lib.hid hs
 clear hs
 have hB := Below.refl w.heap.size w
 obtain ⟨al, xx, hN⟩ := mk hB #[.bool bx, .slice ax kx cx] 26
 replace hB := hN; clear al hN
 try simp only [World.size_alloc] at xx
 obtain ⟨al, xv, hN⟩ := mk hB #[.bool bv, .slice av kv cv] 26
 replace xx := xx.on al; replace hB := hN; clear al hN
 try simp only [World.size_alloc] at xv
 go_enter Try.func11, Try.ntmps11
 have px := xx.all2
 have pv := xv.all2
 have ltx := xx.lt
 have ltv := xv.lt
 go_wp2_with fail
 clear ltx ltv px pv
 refine (HS.out _ hB).mono ?_
 rintro e w1 ⟨rfl, hb⟩
 replace xx := xx.on hb; replace xv := xv.on hb
 have hz1 := hb.size
 try simp at hz1
 replace hB := hB.trans (hb.mono hB.size); clear hb
 go_wp2
 go_ret
 exact ⟨rfl, hB⟩
theorem same_ansW (va vb : Value) (t : Option Int) (cd c d : Int) (w : World) (h : AnsW w t cd va c) (g : AnsW w t cd vb d) : Calls Try.prog 11 #[va, .int .i64 c, vb, .int .i64 d] w fun e w' => e = .returned (.bool true) ∧ Below w.heap.size w w' := by
  obtain ⟨b1, x1, k1, c1, rfl⟩ := h.opened
  obtain ⟨b2, x2, k2, c2, rfl⟩ := g.opened
  rcases h with ⟨z, rfl, rfl, h⟩ | ⟨rfl, rfl, h⟩ <;> rcases g with ⟨y, gt, rfl, g⟩ | ⟨gt, rfl, g⟩
  · cases gt
    exact law1same_true b1 x1 k1 c1 b2 x2 k2 c2 0 w (fun W hW => refSame_eq _ _ z W (h.below hW (Nat.le_refl _)) (g.below hW (Nat.le_refl _)))
  · cases gt
  · cases gt
  · rw [h, g]
    exact law1same_true _ _ _ _ _ _ _ _ _ w (fun W _ => refSame_zz W)
end Go.Proofs.Ytmbcnfogjncdaaa
