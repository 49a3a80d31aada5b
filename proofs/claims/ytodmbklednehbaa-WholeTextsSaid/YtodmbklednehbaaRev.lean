/-
'reversedDigits'.
-/
import Derived.Test.YtodmbklednehbaaDivMod
import Derived.Test.YtodmbklednehbaaMathT
import Derived.Outline
namespace Go.Proofs.Ytodmbklednehbaa
open Go.RowKit Wh

/-- The bytes of digits. -/
def bytesOf (ds : List Nat) : List Value := ds.map fun (d : Nat) => Value.int .u8 ((48 + d : Nat) : Int)
theorem bytesOf_snoc (ds : List Nat) (d : Nat) : bytesOf ds ++ [.int .u8 ((48 + d : Nat) : Int)] = bytesOf (ds ++ [d]) := by simp [bytesOf]
theorem bytesOf_length (ds : List Nat) : (bytesOf ds).length = ds.length := by simp [bytesOf]

theorem Try.infoB : (Try.prog.info? 5).map (fun i => (i.zero, i.size, i.bytes)) = some (some (.int .u8 0), 1, 1) := by kernel_rfl

theorem ownsRow_on {W W' : World} {base : Nat} {e : TypeId} {size : Nat} {v : Value} {n : Nat} {xs : List Value} (h : W.ownsRow base e size v n xs) (hb : Below W.heap.size W W') : W'.ownsRow base e size v n xs := by
  obtain ⟨h0, h1⟩ := h
  refine ⟨h0, ?_⟩
  rcases h1 with h1 | ⟨g, cap, cur, hv, hg, hh, r⟩
  · exact .inl h1
  · exact .inr ⟨g, cap, cur, hv, hg, (hb.block g (Array.getElem?_eq_some_iff.1 hh).1).trans hh, r⟩

theorem row_cells {W : World} {base : Nat} {v : Value} {ds : List Nat} (h : W.ownsRow base 5 1 v ds.length (bytesOf ds)) : ∃ g cap, v = .slice g ds.length cap ∧ ds.length ≤ cap ∧ cap ≤ 9223372036854775807 ∧ (∀ j, j < ds.length → ∃ b, g = some ⟨b, 0, none⟩ ∧ W.cell? ⟨b, j, none⟩ = some (.int .u8 ((48 + ds[j]?.getD 0 : Nat) : Int))) := by
  rcases h.2 with ⟨rfl, h0⟩ | ⟨g, cap, cur, rfl, hg, hh, hc, hm, -⟩
  · exact ⟨none, 0, by rw [h0], by omega, by omega, fun j hj => by omega⟩
  · unfold maxLen at hm
    refine ⟨_, cap, rfl, hc, hm, fun j hj => ⟨g, rfl, ?_⟩⟩
    have := h.cells (g := g) rfl j (.int .u8 ((48 + ds[j]?.getD 0 : Nat) : Int)) (by simp [bytesOf, hj])
    rw [add_eq] at this
    simpa using this

/-- Of the digits those from k on are zero. -/
def CutRel (ds : List Nat) (v5 : Value) : Prop := ∃ k : Nat, k ≤ ds.length ∧ v5 = .int .i64 (k : Int) ∧ ∀ j, k ≤ j → j < ds.length → ds[j]?.getD 0 = 0

/-- The value is the digits of n, as bytes. -/
def RevOut (W : World) (n : Nat) (v : Value) : Prop := ∃ g cap, v = .slice g (Wt.dig n).length cap ∧ (Wt.dig n).length ≤ cap ∧ cap ≤ 9223372036854775807 ∧ ∀ j, j < (Wt.dig n).length → ∃ b, g = some ⟨b, 0, none⟩ ∧ W.cell? ⟨b, j, none⟩ = some (.int .u8 ((48 + (Wt.dig n)[j]?.getD 0 : Nat) : Int))

def RevRel (n B : Nat) (w wr : World) (v0 v3 : Value) : Prop := ∃ (m : Nat) (ds : List Nat), Lim wr v0 (dig m) ∧ wr.ownsRow B 5 1 v3 ds.length (bytesOf ds) ∧ Wt.Lm ds ∧ Wt.val ds + 10 ^ ds.length * m = n ∧ (dig m).length ≤ 16384 ∧ Below B w wr
/-- The limbs lie in a block of their own, or there are none. -/
def Sep (a : Option Addr) (l : List Nat) (v : Value) : Prop := l = [] ∨ ∃ b, a = some ⟨b, 0, none⟩ ∧ v.ownBlock ≠ some b

theorem Lim.grown {W W' : World} {a : Option Addr} {n cap : Nat} {l : List Nat} {row : Option Nat} (h : Lim W (.slice a n cap) l) (hg : W.grownBy W' row) (hs : l = [] ∨ ∃ b, a = some ⟨b, 0, none⟩ ∧ row ≠ some b) : Lim W' (.slice a n cap) l := by
  obtain ⟨a', cap', e, h1, h2, h3⟩ := h
  cases e
  refine ⟨a, cap, rfl, h1, h2, ?_⟩
  rcases hs with rfl | ⟨b, rfl, hne⟩
  · exact .inl rfl
  · rcases h3 with rfl | ⟨b', off, e, hc⟩
    · exact .inl rfl
    · cases e
      by_cases hl : l = []
      · exact .inl hl
      · have hb : b < W.heap.size := lt_of_cell (hc 0 (List.length_pos_iff.2 hl))
        exact .inr ⟨b, 0, rfl, fun j hj => (World.cell?_of_block (hg.block b hb (fun e => hne e.symm)) (a := ⟨b, 0 + j, none⟩)).trans (hc j hj)⟩

theorem Sep.next {W' : World} {base : Nat} {a : Option Addr} {n cap : Nat} {l : List Nat} {v v' : Value} {k : Nat} {ds : List Nat} (hs : Sep a l v) (h : Lim W' (.slice a n cap) l) (ho : W'.ownsRow base 5 1 v' k (bytesOf ds)) (hd : ds ≠ []) : Sep a l v' := by
  rcases hs with hs | ⟨b, rfl, hne⟩
  · exact .inl hs
  · by_cases hl : l = []
    · exact .inl hl
    · refine .inr ⟨b, rfl, fun e => ?_⟩
      obtain ⟨b', off, e', -, hc⟩ := h.block hl
      cases e'
      have c1 := hc 0 (List.length_pos_iff.2 hl)
      obtain ⟨x, r, rfl⟩ : ∃ x r, ds = x :: r := by
        cases ds with
        | nil => exact absurd rfl hd
        | cons x r => exact ⟨x, r, rfl⟩
      have c2 := ho.cells e 0 (.int .u8 ((48 + x : Nat) : Int)) (by simp [bytesOf])
      rw [add_eq] at c2
      rw [c1] at c2
      simp at c2

def RevIn (n m' B : Nat) (a2 : Option Addr) (k2 c2 : Nat) (w wr : World) (v3 v4 v14 : Value) : Prop := ∃ (j g : Nat) (ds : List Nat), j ≤ 12 ∧ v14 = .int .i64 (j : Int) ∧ v4 = .int .u64 (g : Int) ∧ g < 10 ^ (12 - j) ∧ wr.ownsRow B 5 1 v3 ds.length (bytesOf ds) ∧ Wt.Lm ds ∧ Wt.val ds + 10 ^ ds.length * (g + 10 ^ (12 - j) * m') = n ∧ ds.length ≤ 1048000 + j ∧ Lim wr (.slice a2 k2 c2) (dig m') ∧ Below B w wr ∧ Sep a2 (dig m') v3

set_option maxRecDepth 100000 in
set_option maxHeartbeats 2000000 in
theorem reversedDigits_any (sv : Value) (n : Nat) (hn : (dig n).length ≤ 16384) (w : World) (h : Lim w sv (dig n)) :
    Calls Try.prog 49 #[sv] w fun e w' => (∃ v, e = .returned v ∧ RevOut w' n v) ∧ Below w.heap.size w w' := by
  obtain ⟨i0, hi, hz0, hz1, hz2⟩ := info_parts Try.infoB
  obtain ⟨a, cap, rfl, -⟩ := id h
  go_enter Try.func49, Try.ntmps49
  go_wp2
  go_loopw [0, 3, 4] (fun v0 v3 _ wr => RevRel n w.heap.size w wr v0 v3) (fun v0 _ _ wr => numOf wr v0)
  case atStart => exact ⟨n, [], h, World.ownsRow_nil _ _ _ _, .nil, by simp, hn, Below.refl _ _⟩
  case round =>
    obtain ⟨m, ds, hl, hown, hlm, hval, hm, hB⟩ := hrel
    obtain ⟨a1, c1, rfl, -⟩ := id hl
    rcases Nat.eq_zero_or_pos m with hm0 | hm0
    · subst hm0
      have hn0 : Wt.val ds = n := by simpa using hval
      obtain ⟨g3, c3, rfl, hc3, hm3, hcells⟩ := row_cells hown
      have e0 : (dig 0).length = 0 := by simp [dig_zero]
      have HN := Lib.hid hn0
      have HC := Lib.hid hcells
      clear hval hn0 hcells hown
      rw [e0] at hl ⊢
      clear hl e0
      go_wp2
      go_loop [5] (fun v5 => CutRel ds v5) (fun v5 => (intOf v5).toNat)
      case atStart => exact ⟨ds.length, Nat.le_refl _, rfl, fun j h1 h2 => by omega⟩
      case round =>
        obtain ⟨k, hk, rfl, hzr⟩ := hrel
        have HZ := Lib.hid hzr
        clear hzr
        rcases Nat.eq_zero_or_pos k with hk0 | hk0
        · subst hk0
          have eD : Wt.dig n = [] := by rw [← HN.out]; exact Wt.dig_of_zero (fun j hj => HZ.out j (Nat.zero_le _) hj)
          go_wp2
          go_ret
          exact ⟨⟨_, rfl, g3, c3, by rw [eD]; rfl, by rw [eD]; exact Nat.zero_le _, hm3, fun j hj => by rw [eD] at hj; exact absurd hj (Nat.not_lt_zero _)⟩, hB⟩
        · obtain ⟨b, rfl, hcell⟩ := HC.out (k - 1) (by omega)
          by_cases hd : ds[k - 1]?.getD 0 = 0
          · have HD := Lib.hid hd
            rw [hd] at hcell
            clear hd
            go_wp2
            case roundEnd =>
              refine ⟨⟨k - 1, by omega, by congr 1; omega, fun j h1 h2 => ?_⟩, by simp [intOf]; omega⟩
              by_cases e : j = k - 1
              · rw [e]; exact HD.out
              · exact HZ.out j (by omega) h2
          · have eD : Wt.dig n = ds.take k := by
              rw [← HN.out, Wt.dig_of_top hlm (m := k - 1) (by omega) hd (fun j h1 h2 => HZ.out j (by omega) h2)]
              congr 1; omega
            have eL : (Wt.dig n).length = k := by rw [eD, List.length_take]; omega
            have hd2 : ((48 + (ds[k - 1]?.getD 0 : Int)) == 48) = false := by simp; omega
            have EL := Lib.hid eL
            have ED := Lib.hid eD
            clear hd eD eL
            go_wp2
            go_ret
            refine ⟨⟨_, rfl, some ⟨b, 0, none⟩, c3, by rw [EL.out]; rfl, by rw [EL.out]; omega, hm3, fun j hj => ?_⟩, hB⟩
            rw [EL.out] at hj
            obtain ⟨b', e, hc⟩ := HC.out j (by omega)
            cases e
            refine ⟨b, rfl, ?_⟩
            rw [hc, ED.out, List.getElem?_take_of_lt hj]
    · have hpos : (0 : Int) < ((dig m).length : Int) := by have := dig_pos_len (show m ≠ 0 by omega); omega
      have hdv := divideShort_any (.slice a1 (dig m).length c1) (dig m) (dig_Lm m) (by omega) 1000000000000 (by decide) (by decide) wr hl
      rw [val_dig] at hdv
      have HDV := Lib.hid hdv
      clear hdv
      go_wp2_with (go_at_call 67; refine HDV.out.mono ?_; rintro e w1 ⟨⟨v', rfl, hl1⟩, hb1⟩; obtain ⟨a2, c2, rfl⟩ := lf_slice0 hl1)
      have hB1 := hB.trans (hb1.mono hB.size)
      have hlen : ds.length ≤ 81920 := by
        have h1 : 10 ^ ds.length ≤ n := by
          rw [← hval]
          have := Nat.le_mul_of_pos_right (10 ^ ds.length) hm0
          omega
        have h2 := Wt.len_of_limbs h1 (lt_pow_length n)
        omega
      have hown1 := ownsRow_on hown hb1
      have hmod : m = m % 1000000000000 + 10 ^ 12 * (m / 1000000000000) := by omega
      have hval1 : Wt.val ds + 10 ^ ds.length * (m % 1000000000000 + 10 ^ 12 * (m / 1000000000000)) = n := by rw [← hmod]; exact hval
      have hml : (dig (m / 1000000000000)).length ≤ 16384 := Nat.le_trans (length_dig_mono (Nat.div_le_self _ _)) hm
      have hnum : numOf w1 (.slice a2 (dig (m / 1000000000000)).length c2) < numOf wr (.slice a1 (dig m).length c1) := by rw [numOf_eq hl1.1, numOf_eq hl]; omega
      have em : ((m : Int) % 1000000000000) = ((m % 1000000000000 : Nat) : Int) := by omega
      rw [em]
      have hg0 : m % 1000000000000 < 10 ^ 12 := Nat.mod_lt _ (by decide)
      have HL1 := hl1.1
      have hsep : Sep a2 (dig (m / 1000000000000)) u3 := by
        rcases hl1.2 with e | ⟨gb, n', cap', cur, T, e, hg, -⟩
        · injection e with e1 e2 e3
          exact .inl (List.eq_nil_of_length_eq_zero e2)
        · injection e with e1 e2 e3
          subst e1
          exact .inr ⟨gb, rfl, fun e => by have := (hown.lt gb e).2; omega⟩
      clear hown hval hmod em hl1
      generalize m % 1000000000000 = g0 at *
      generalize hm' : m / 1000000000000 = m' at *
      go_loopw [3, 4, 14] (fun v3 v4 v14 wr => RevIn n m' w.heap.size a2 (dig m').length c2 w wr v3 v4 v14) (fun _ _ v14 _ => 12 - (intOf v14).toNat)
      case atStart => exact ⟨0, g0, ds, by omega, rfl, rfl, hg0, hown1, hlm, hval1, by omega, HL1, hB1, hsep⟩
      case round =>
        obtain ⟨j, g, es, hj, rfl, rfl, hg, hown2, hlm2, hval2, hlen2, hl2, hB2, hsp⟩ := hrel
        rcases Nat.lt_or_ge j 12 with hj12 | hj12
        · have hlim3 := hl2.below ((Below.refl wr.heap.size wr).alloc (Nat.le_refl _) (.cells #[.int .u8 (48 + (g : Int) % 10)] 5)) (Nat.le_refl _)
          have hB3 := hB2.alloc hB2.size (.cells #[.int .u8 (48 + (g : Int) % 10)] 5)
          have eX : bytesOf es ++ [Value.int .u8 (48 + (g : Int) % 10)] = bytesOf (es ++ [g % 10]) := by rw [← bytesOf_snoc]; simp
          have hvalN : Wt.val (es ++ [g % 10]) + 10 ^ (es ++ [g % 10]).length * (g / 10 + 10 ^ (12 - (j + 1)) * m') = n := by
            rw [Wt.step_val, ← hval2, show 12 - j = (12 - (j + 1)) + 1 by omega, Nat.pow_succ, Nat.mul_comm (10 ^ (12 - (j + 1))) 10]
          have hgN : g / 10 < 10 ^ (12 - (j + 1)) := by
            rw [show 12 - j = (12 - (j + 1)) + 1 by omega, Nat.pow_succ] at hg
            exact Nat.div_lt_of_lt_mul (by omega)
          have hg64 : (g : Int) ≤ 1000000000000 := by
            have := Nat.pow_le_pow_right (show 0 < 10 by decide) (Nat.sub_le 12 j)
            have e12 : 10 ^ 12 = 1000000000000 := by decide
            omega
          have hgn : (0 : Int) ≤ (g : Int) := Int.natCast_nonneg _
          have HV := Lib.hid hvalN
          have HG := Lib.hid hgN
          have HE := Lib.hid eX
          have HG0 := Lib.hid hg
          clear hvalN hgN eX hval2 hval1 hnum hg hg0
          go_wp2_with (at_builtin; refine wpList_append_own _ rfl _ _ 48 rfl w.heap.size 5 i0 (.int .u8 0) 1 1 Try.underlying48 hi hz0 hz1 hz2 rfl (by decide) _ _ _ rfl (hown2.alloc _) ⟨wr.heap.size, 0, none⟩ 1 1 [.int .u8 (48 + (g : Int) % 10)] rfl rfl (cell_one_new _ _ _) (by simp [Value.oneCell']) (by unfold maxLen; omega) (by omega) (by simp; have := hB2.size; omega) ?_; intro v' w2 hown3 hgrow _)
          rw [HE.out] at hown3
          have hl3 := hlim3.grown hgrow hsp
          have hsp3 := Sep.next hsp hl3 hown3 (by simp)
          go_roundw
          case rel => exact ⟨j + 1, g / 10, es ++ [g % 10], by omega, by go_num, by go_num, HG.out, by simpa using hown3, hlm2.append (.cons (by omega) .nil), HV.out, by simp; omega, hl3, hB3.grown hgrow (by simp; have := hB2.size; omega) (fun k e => (hown2.lt k e).1), hsp3⟩
          case measure => simp [intOf]; omega
        · obtain rfl : j = 12 := by omega
          have hg0' : g = 0 := by simp at hg; exact hg
          subst hg0'
          have hv2 : Wt.val es + 10 ^ es.length * m' = n := by simpa using hval2
          have HV := Lib.hid hv2
          clear hval2 hval1 hv2 hnum hg0 hg
          go_wp2
          go_roundw
          case rel => exact ⟨m', es, hl2, hown2, hlm2, HV.out, hml, hB2⟩
          case measure => rw [numOf_eq hl2, numOf_eq hl]; omega

end Go.Proofs.Ytodmbklednehbaa
