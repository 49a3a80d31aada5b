/- A part of the proofs about fractions. -/
import Derived.BigQuiet
import Derived.Deep.QuietTactic
import Derived.Laws.IdiomStrings
import Derived.Outline
import Derived.Test.YtmbcnfogjncdaaaQWl11
set_option maxRecDepth 100000
set_option maxHeartbeats 2000000
namespace Go.Proofs.Ytmbcnfogjncdaaa
open Go.RowKit Wh
def bytesOf (ds : List Nat) : List Value := ds.map fun (d : Nat) => Value.int .u8 ((48 + d : Nat) : Int)
theorem bytesOf_snoc (ds : List Nat) (d : Nat) : bytesOf ds ++ [.int .u8 ((48 + d : Nat) : Int)] = bytesOf (ds ++ [d]) := by simp [bytesOf]
theorem Try.infoB : (Try.prog.info? 5).map (fun i => (i.zero, i.size, i.bytes)) = some (some (.int .u8 0), 1, 1) := by kernel_rfl
theorem ownsRow_on {W W' : World} {base : Nat} {e : TypeId} {size : Nat} {v : Value} {n : Nat} {xs : List Value} (h : W.ownsRow base e size v n xs) (hb : Below W.heap.size W W') : W'.ownsRow base e size v n xs := by
 obtain ⟨h0, h1⟩ := h
 refine ⟨h0, ?_⟩
 rcases h1 with h1 | ⟨g, cap, cur, hv, hg, hh, r⟩
 · exact .inl h1
 · exact .inr ⟨g, cap, cur, hv, hg, (hb.block g (Array.getElem?_eq_some_iff.1 hh).1).trans hh, r⟩
theorem row_cells {W : World} {base : Nat} {v : Value} {ds : List Nat} (h : W.ownsRow base 5 1 v ds.length (bytesOf ds)) : ∃ g cap, v = .slice g ds.length cap ∧ ds.length ≤ cap ∧ cap ≤ 9223372036854775807 ∧ (∀ j, j < ds.length → ∃ b, g = some ⟨b, 0, none⟩ ∧ W.cell? ⟨b, j, none⟩ = some (.int .u8 ((48 + ds[j]?.getD 0 : Nat) : Int))) := by
  rcases h.2 with ⟨rfl, h0⟩ | ⟨g, cap, cur, rfl, hg, hh, hc, hm, -⟩
  · exact ⟨none, 0, by rw [h0], by omega, by omega, fun j hj => by omega⟩
  · unfold maxLen at hm
    refine ⟨_, cap, rfl, hc, hm, fun j hj => ⟨g, rfl, ?_⟩⟩
    have := h.cells (g := g) rfl j (.int .u8 ((48 + ds[j]?.getD 0 : Nat) : Int)) (by simp [bytesOf, hj])
    rw [add_eq] at this
    simpa using this
def CutRel (ds : List Nat) (v5 : Value) : Prop := ∃ k : Nat, k ≤ ds.length ∧ v5 = .int .i64 (k : Int) ∧ ∀ j, k ≤ j → j < ds.length → ds[j]?.getD 0 = 0
def RevOut (W : World) (n : Nat) (v : Value) : Prop := ∃ g cap, v = .slice g (Wt.dig n).length cap ∧ (Wt.dig n).length ≤ cap ∧ cap ≤ 9223372036854775807 ∧ ∀ j, j < (Wt.dig n).length → ∃ b, g = some ⟨b, 0, none⟩ ∧ W.cell? ⟨b, j, none⟩ = some (.int .u8 ((48 + (Wt.dig n)[j]?.getD 0 : Nat) : Int))
def RevRel (n B : Nat) (w wr : World) (v0 v3 : Value) : Prop := ∃ (m : Nat) (ds : List Nat), Lim wr v0 (dig m) ∧ wr.ownsRow B 5 1 v3 ds.length (bytesOf ds) ∧ Wt.Lm ds ∧ Wt.val ds + 10 ^ ds.length * m = n ∧ (dig m).length ≤ 16384 ∧ Below B w wr
def Sep (a : Option Addr) (l : List Nat) (v : Value) : Prop := l = [] ∨ ∃ b, a = some ⟨b, 0, none⟩ ∧ v.ownBlock ≠ some b
theorem Lim.grown {W W' : World} {a : Option Addr} {n cap : Nat} {l : List Nat} {row : Option Nat} (h : Lim W (.slice a n cap) l) (hg : W.grownBy W' row) (hs : l = [] ∨ ∃ b, a = some ⟨b, 0, none⟩ ∧ row ≠ some b) : Lim W' (.slice a n cap) l := by
  obtain ⟨a', cap', e, h1, h2, h3⟩ := h
  cases e
  refine ⟨a, cap, rfl, h1, h2, ?_⟩
  rcases hs with rfl | ⟨b, rfl, hne⟩
  · exact .inl rfl
  · rcases h3 with rfl | ⟨b', off, e, hc⟩
    · exact .inl rfl
    · cases e
      by_cases hl : l = []
      · exact .inl hl
      · have hb : b < W.heap.size := lt_of_cell (hc 0 (List.length_pos_iff.2 hl))
        exact .inr ⟨b, 0, rfl, fun j hj => (World.cell?_of_block (hg.block b hb (fun e => hne e.symm)) (a := ⟨b, 0 + j, none⟩)).trans (hc j hj)⟩
theorem Sep.next {W' : World} {base : Nat} {a : Option Addr} {n cap : Nat} {l : List Nat} {v v' : Value} {k : Nat} {ds : List Nat} (hs : Sep a l v) (h : Lim W' (.slice a n cap) l) (ho : W'.ownsRow base 5 1 v' k (bytesOf ds)) (hd : ds ≠ []) : Sep a l v' := by
  rcases hs with hs | ⟨b, rfl, hne⟩
  · exact .inl hs
  · by_cases hl : l = []
    · exact .inl hl
    · refine .inr ⟨b, rfl, fun e => ?_⟩
      obtain ⟨b', off, e', -, hc⟩ := h.block hl
      cases e'
      have c1 := hc 0 (List.length_pos_iff.2 hl)
      obtain ⟨x, r, rfl⟩ : ∃ x r, ds = x :: r := by
        cases ds with
        | nil => exact absurd rfl hd
        | cons x r => exact ⟨x, r, rfl⟩
      have c2 := ho.cells e 0 (.int .u8 ((48 + x : Nat) : Int)) (by simp [bytesOf])
      rw [add_eq] at c2
      rw [c1] at c2
      simp at c2
def RevIn (n m' B : Nat) (a2 : Option Addr) (k2 c2 : Nat) (w wr : World) (v3 v4 v14 : Value) : Prop := ∃ (j g : Nat) (ds : List Nat), j ≤ 12 ∧ v14 = .int .i64 (j : Int) ∧ v4 = .int .u64 (g : Int) ∧ g < 10 ^ (12 - j) ∧ wr.ownsRow B 5 1 v3 ds.length (bytesOf ds) ∧ Wt.Lm ds ∧ Wt.val ds + 10 ^ ds.length * (g + 10 ^ (12 - j) * m') = n ∧ ds.length ≤ 1048000 + j ∧ Lim wr (.slice a2 k2 c2) (dig m') ∧ Below B w wr ∧ Sep a2 (dig m') v3
theorem reversedDigits_any (sv : Value) (n : Nat) (hn : (dig n).length ≤ 16384) (w : World) (h : Lim w sv (dig n)) :
    Calls Try.prog 27 #[sv] w fun e w' => (∃ v, e = .returned v ∧ RevOut w' n v) ∧ Below w.heap.size w w' := by
  obtain ⟨i0, hi, hz0, hz1, hz2⟩ := info_parts Try.infoB
  obtain ⟨a, cap, rfl, -⟩ := id h
  go_enter Try.func27, Try.ntmps27
  go_wp2
  go_loopw [0, 3, 4] (fun v0 v3 _ wr => RevRel n w.heap.size w wr v0 v3) (fun v0 _ _ wr => numOf wr v0)
  case atStart => exact ⟨n, [], h, World.ownsRow_nil _ _ _ _, .nil, by simp, hn, Below.refl _ _⟩
  case round =>
    obtain ⟨m, ds, hl, hown, hlm, hval, hm, hB⟩ := hrel
    obtain ⟨a1, c1, rfl, -⟩ := id hl
    rcases Nat.eq_zero_or_pos m with hm0 | hm0
    · subst hm0
      have hn0 : Wt.val ds = n := by simpa using hval
      obtain ⟨g3, c3, rfl, hc3, hm3, hcells⟩ := row_cells hown
      have e0 : (dig 0).length = 0 := by simp [dig_zero]
      have HN := Lib.hid hn0
      have HC := Lib.hid hcells
      clear hval hn0 hcells hown
      rw [e0] at hl ⊢
      clear hl e0
      go_wp2
      go_loop [5] (fun v5 => CutRel ds v5) (fun v5 => (intOf v5).toNat)
      case atStart => exact ⟨ds.length, Nat.le_refl _, rfl, fun j h1 h2 => by omega⟩
      case round =>
        obtain ⟨k, hk, rfl, hzr⟩ := hrel
        have HZ := Lib.hid hzr
        clear hzr
        rcases Nat.eq_zero_or_pos k with hk0 | hk0
        · subst hk0
          have eD : Wt.dig n = [] := by rw [← HN.out]; exact Wt.dig_of_zero (fun j hj => HZ.out j (Nat.zero_le _) hj)
          go_wp2
          go_ret
          exact ⟨⟨_, rfl, g3, c3, by rw [eD]; rfl, by rw [eD]; exact Nat.zero_le _, hm3, fun j hj => by rw [eD] at hj; exact absurd hj (Nat.not_lt_zero _)⟩, hB⟩
        · obtain ⟨b, rfl, hcell⟩ := HC.out (k - 1) (by omega)
          by_cases hd : ds[k - 1]?.getD 0 = 0
          · have HD := Lib.hid hd
            rw [hd] at hcell
            clear hd
            go_wp2
            case roundEnd =>
              refine ⟨⟨k - 1, by omega, by congr 1; omega, fun j h1 h2 => ?_⟩, by simp [intOf]; omega⟩
              by_cases e : j = k - 1
              · rw [e]; exact HD.out
              · exact HZ.out j (by omega) h2
          · have eD : Wt.dig n = ds.take k := by
              rw [← HN.out, Wt.dig_of_top hlm (m := k - 1) (by omega) hd (fun j h1 h2 => HZ.out j (by omega) h2)]
              congr 1; omega
            have eL : (Wt.dig n).length = k := by rw [eD, List.length_take]; omega
            have hd2 : ((48 + (ds[k - 1]?.getD 0 : Int)) == 48) = false := by simp; omega
            have EL := Lib.hid eL
            have ED := Lib.hid eD
            clear hd eD eL
            go_wp2
            go_ret
            refine ⟨⟨_, rfl, some ⟨b, 0, none⟩, c3, by rw [EL.out]; rfl, by rw [EL.out]; omega, hm3, fun j hj => ?_⟩, hB⟩
            rw [EL.out] at hj
            obtain ⟨b', e, hc⟩ := HC.out j (by omega)
            cases e
            refine ⟨b, rfl, ?_⟩
            rw [hc, ED.out, List.getElem?_take_of_lt hj]
    · have hpos : (0 : Int) < ((dig m).length : Int) := by have := dig_pos_len (show m ≠ 0 by omega); omega
      have hdv := divideShort_any (.slice a1 (dig m).length c1) (dig m) (dig_Lm m) (by omega) 1000000000000 (by decide) (by decide) wr hl
      rw [val_dig] at hdv
      have HDV := Lib.hid hdv
      clear hdv
      go_wp2_with (go_at_call 43; refine HDV.out.mono ?_; rintro e w1 ⟨⟨v', rfl, hl1⟩, hb1⟩; obtain ⟨a2, c2, rfl⟩ := lf_slice0 hl1)
      have hB1 := hB.trans (hb1.mono hB.size)
      have hlen : ds.length ≤ 81920 := by
        have h1 : 10 ^ ds.length ≤ n := by
          rw [← hval]
          have := Nat.le_mul_of_pos_right (10 ^ ds.length) hm0
          omega
        have h2 := Wt.len_of_limbs h1 (lt_pow_length n)
        omega
      have hown1 := ownsRow_on hown hb1
      have hmod : m = m % 1000000000000 + 10 ^ 12 * (m / 1000000000000) := by omega
      have hval1 : Wt.val ds + 10 ^ ds.length * (m % 1000000000000 + 10 ^ 12 * (m / 1000000000000)) = n := by rw [← hmod]; exact hval
      have hml : (dig (m / 1000000000000)).length ≤ 16384 := Nat.le_trans (length_dig_mono (Nat.div_le_self _ _)) hm
      have hnum : numOf w1 (.slice a2 (dig (m / 1000000000000)).length c2) < numOf wr (.slice a1 (dig m).length c1) := by rw [numOf_eq hl1.1, numOf_eq hl]; omega
      have em : ((m : Int) % 1000000000000) = ((m % 1000000000000 : Nat) : Int) := by omega
      rw [em]
      have hg0 : m % 1000000000000 < 10 ^ 12 := Nat.mod_lt _ (by decide)
      have HL1 := hl1.1
      have hsep : Sep a2 (dig (m / 1000000000000)) u3 := by
        rcases hl1.2 with e | ⟨gb, n', cap', cur, T, e, hg, -⟩
        · injection e with e1 e2 e3
          exact .inl (List.eq_nil_of_length_eq_zero e2)
        · injection e with e1 e2 e3
          subst e1
          exact .inr ⟨gb, rfl, fun e => by have := (hown.lt gb e).2; omega⟩
      clear hown hval hmod em hl1
      generalize m % 1000000000000 = g0 at *
      generalize hm' : m / 1000000000000 = m' at *
      go_loopw [3, 4, 14] (fun v3 v4 v14 wr => RevIn n m' w.heap.size a2 (dig m').length c2 w wr v3 v4 v14) (fun _ _ v14 _ => 12 - (intOf v14).toNat)
      case atStart => exact ⟨0, g0, ds, by omega, rfl, rfl, hg0, hown1, hlm, hval1, by omega, HL1, hB1, hsep⟩
      case round =>
        obtain ⟨j, g, es, hj, rfl, rfl, hg, hown2, hlm2, hval2, hlen2, hl2, hB2, hsp⟩ := hrel
        rcases Nat.lt_or_ge j 12 with hj12 | hj12
        · have hlim3 := hl2.below ((Below.refl wr.heap.size wr).alloc (Nat.le_refl _) (.cells #[.int .u8 (48 + (g : Int) % 10)] 5)) (Nat.le_refl _)
          have hB3 := hB2.alloc hB2.size (.cells #[.int .u8 (48 + (g : Int) % 10)] 5)
          have eX : bytesOf es ++ [Value.int .u8 (48 + (g : Int) % 10)] = bytesOf (es ++ [g % 10]) := by rw [← bytesOf_snoc]; simp
          have hvalN : Wt.val (es ++ [g % 10]) + 10 ^ (es ++ [g % 10]).length * (g / 10 + 10 ^ (12 - (j + 1)) * m') = n := by
            rw [Wt.step_val, ← hval2, show 12 - j = (12 - (j + 1)) + 1 by omega, Nat.pow_succ, Nat.mul_comm (10 ^ (12 - (j + 1))) 10]
          have hgN : g / 10 < 10 ^ (12 - (j + 1)) := by
            rw [show 12 - j = (12 - (j + 1)) + 1 by omega, Nat.pow_succ] at hg
            exact Nat.div_lt_of_lt_mul (by omega)
          have hg64 : (g : Int) ≤ 1000000000000 := by
            have := Nat.pow_le_pow_right (show 0 < 10 by decide) (Nat.sub_le 12 j)
            have e12 : 10 ^ 12 = 1000000000000 := by decide
            omega
          have hgn : (0 : Int) ≤ (g : Int) := Int.natCast_nonneg _
          have HV := Lib.hid hvalN
          have HG := Lib.hid hgN
          have HE := Lib.hid eX
          have HG0 := Lib.hid hg
          clear hvalN hgN eX hval2 hval1 hnum hg hg0
          go_wp2_with (at_builtin; refine wpList_append_own _ rfl _ _ 43 rfl w.heap.size 5 i0 (.int .u8 0) 1 1 Try.underlying43 hi hz0 hz1 hz2 rfl (by decide) _ _ _ rfl (hown2.alloc _) ⟨wr.heap.size, 0, none⟩ 1 1 [.int .u8 (48 + (g : Int) % 10)] rfl rfl (cell_one_new _ _ _) (by simp [Value.oneCell']) (by unfold maxLen; omega) (by omega) (by simp; have := hB2.size; omega) ?_; intro v' w2 hown3 hgrow _)
          rw [HE.out] at hown3
          have hl3 := hlim3.grown hgrow hsp
          have hsp3 := Sep.next hsp hl3 hown3 (by simp)
          go_roundw
          case rel => exact ⟨j + 1, g / 10, es ++ [g % 10], by omega, by go_num, by go_num, HG.out, by simpa using hown3, hlm2.append (.cons (by omega) .nil), HV.out, by simp; omega, hl3, hB3.grown hgrow (by simp; have := hB2.size; omega) (fun k e => (hown2.lt k e).1), hsp3⟩
          case measure => simp [intOf]; omega
        · obtain rfl : j = 12 := by omega
          have hg0' : g = 0 := by simp at hg; exact hg
          subst hg0'
          have hv2 : Wt.val es + 10 ^ es.length * m' = n := by simpa using hval2
          have HV := Lib.hid hv2
          clear hval2 hval1 hv2 hnum hg0 hg
          go_wp2
          go_roundw
          case rel => exact ⟨m', es, hl2, hown2, hlm2, HV.out, hml, hB2⟩
          case measure => rw [numOf_eq hl2, numOf_eq hl]; omega
end Go.Proofs.Ytmbcnfogjncdaaa
namespace Go.Proofs.Ytmbcnfogjncdaaa
open Go.RowKit Wh
def bcells (l : List UInt8) : List Value := l.map fun c => Value.int .u8 (c.toNat : Int)
theorem bcells_snoc (l : List UInt8) (c : UInt8) : bcells l ++ [.int .u8 (c.toNat : Int)] = bcells (l ++ [c]) := by simp [bcells]
def dbyte (d : Nat) : UInt8 := UInt8.ofNat (48 + d)
theorem dbyte_toNat {d : Nat} (h : d < 10) : (dbyte d).toNat = 48 + d := by simp [dbyte]; omega
def txt (z : Int) : List UInt8 := if z = 0 then [48] else (if z < 0 then [45] else []) ++ (Wt.dig z.natAbs).reverse.map dbyte
theorem Text_bad (b : Bool) (s : Value) (l : List Nat) (w : World) (h : Lim w s l) (hv : vld b l = false) :
  Calls Try.prog 13 #[.agg #[.bool b, s]] w fun e w' => e = .returned (.tuple #[.string ⟨#[]⟩, .int .i64 2]) ∧ Below w.heap.size w w' := by
 have hw1 := fun B W (h0 : W.cell? ⟨B, 0, none⟩ = some (.bool b)) (h1 : W.cell? ⟨B, 1, none⟩ = some s) (hW : Below w.heap.size w W) => allValid_one B b s l W h0 h1 (h.below hW (Nat.le_refl _))
 rw [hv] at hw1
 have HW1 := Lib.hid hw1
 obtain ⟨aa, ca, rfl⟩ := lim_slice h
 clear hw1 h hv
 obtain ⟨ja, hja⟩ : ∃ n, n = l.length := ⟨_, rfl⟩
 rw [← hja] at HW1 ⊢
 clear hja
 have hz := ((Below.refl w.heap.size w).alloc (Nat.le_refl _) (.cells #[.bool b, .slice aa ja ca] 26)).alloc (by simp) (.cells #[.bool b, .slice aa ja ca] 26)
 have hr := (Bx.new (w.alloc (.cells #[.bool b, .slice aa ja ca] 26)) (.bool b) (.slice aa ja ca)).cells
 simp only [World.size_alloc] at hr
 have HR := Lib.hid hr
 clear hr
 go_enter Try.func13, Try.ntmps13
 go_wp2_with (go_at_call 26; refine (HW1.out _ _ HR.out.1 HR.out.2 hz).mono ?_; rintro e w2 ⟨rfl, hb2⟩; have hB2 := hz.trans (hb2.mono hz.size))
 go_ret2
 exact ⟨rfl, hB2⟩
def TextRel (B D : Nat) (pre : List UInt8) (ds : List Nat) (w1 wr : World) (v5 v6 : Value) : Prop :=
 ∃ m : Nat, m ≤ D ∧ v6 = .int .i64 ((m : Int) - 1) ∧ wr.ownsRow B 5 1 v5 (pre ++ (ds.drop m).reverse.map dbyte).length (bcells (pre ++ (ds.drop m).reverse.map dbyte)) ∧ Below B w1 wr
theorem drop_rev_step (pre : List UInt8) (ds : List Nat) (m : Nat) (h0 : 0 < m) (hm : m ≤ ds.length) : pre ++ (ds.drop m).reverse.map dbyte ++ [dbyte (ds[m - 1]?.getD 0)] = pre ++ (ds.drop (m - 1)).reverse.map dbyte := by
 have e : ds.drop (m - 1) = ds[m - 1] :: ds.drop m := by
  have := List.drop_eq_getElem_cons (l := ds) (i := m - 1) (by omega)
  rw [this, Nat.sub_add_cancel h0]
 rw [e]
 have e2 : ds[m - 1]?.getD 0 = ds[m - 1] := by rw [List.getElem?_eq_getElem (by omega)]; rfl
 rw [e2]
 simp
theorem Text_any (v : Value) (z : Int) (hz1024 : (dig z.natAbs).length ≤ 1024) (w : World) (h' : Num w v z) :
    Calls Try.prog 13 #[v] w fun e w' => e = .returned (.tuple #[.string ⟨(txt z).toArray⟩, .int .i64 0]) ∧ Below w.heap.size w w' := by
  obtain ⟨i0, hi, hz0, hz1, hz2⟩ := info_parts Try.infoB
  obtain ⟨s, rfl, h⟩ := h'
  have hw1 := fun B W (h0 : W.cell? ⟨B, 0, none⟩ = some (.bool (decide (z < 0)))) (h1 : W.cell? ⟨B, 1, none⟩ = some s) (hW : Below w.heap.size w W) => allValid_one B _ s _ W h0 h1 (h.below hW (Nat.le_refl _))
  rw [vld_num z hz1024] at hw1
  have HW1 := Lib.hid hw1
  have hw2 := fun W (hW : Below w.heap.size w W) => reversedDigits_any s z.natAbs (by omega) W (h.below hW (Nat.le_refl _))
  have hw2' : ∀ W, Below w.heap.size w W → Calls Try.prog 27 #[s] W fun e w' => (∃ g3 c3, e = .returned (.slice g3 (Wt.dig z.natAbs).length c3) ∧ (∀ j, j < (Wt.dig z.natAbs).length → ∃ b, g3 = some ⟨b, 0, none⟩ ∧ w'.cell? ⟨b, j, none⟩ = some (.int .u8 ((48 + (Wt.dig z.natAbs)[j]?.getD 0 : Nat) : Int)))) ∧ Below W.heap.size W w' := fun W hW =>
    (hw2 W hW).mono fun e w' ⟨⟨v, he, g3, c3, hv, _, _, hc⟩, hb⟩ => ⟨⟨g3, c3, by rw [he, hv], hc⟩, hb⟩
  have HW2 := Lib.hid hw2'
  obtain ⟨aa, ca, rfl⟩ := lim_slice h
  clear hw1 hw2 hw2' h
  have hD5 : z.natAbs ≠ 0 → (Wt.dig z.natAbs).length ≤ 5121 := fun h0 => by
    have h1 := Wt.pow_le_of_length (n := z.natAbs) (k := (Wt.dig z.natAbs).length - 1) (by have : Wt.dig z.natAbs ≠ [] := fun e => h0 ((Wt.dig_nil_iff _).1 e); have := List.length_pos_iff.2 this; omega)
    have := Wt.len_of_limbs h1 (lt_pow_length z.natAbs)
    omega
  have hja : ((dig z.natAbs).length : Int) = 0 ↔ z = 0 := by
    rw [Int.natCast_eq_zero, List.length_eq_zero_iff, dig_nil_iff]; omega
  obtain ⟨ja, hja'⟩ : ∃ n, n = (dig z.natAbs).length := ⟨_, rfl⟩
  rw [← hja'] at HW1 HW2 hja ⊢
  clear hja' hz1024
  obtain ⟨na, hna⟩ : ∃ n, n = decide (z < 0) := ⟨_, rfl⟩
  rw [← hna] at HW1 ⊢
  have hz := ((Below.refl w.heap.size w).alloc (Nat.le_refl _) (.cells #[.bool na, .slice aa ja ca] 26)).alloc (by simp) (.cells #[.bool na, .slice aa ja ca] 26)
  have x2 := (Bx.new w (.bool na) (.slice aa ja ca)).alloc (.cells #[.bool na, .slice aa ja ca] 26)
  have hr := (Bx.new (w.alloc (.cells #[.bool na, .slice aa ja ca] 26)) (.bool na) (.slice aa ja ca)).cells
  simp only [World.size_alloc] at hr
  have HR := Lib.hid hr
  clear hr
  have HNA := Lib.hid hna
  clear hna
  by_cases hzz : z = 0
  · have hj0 : ja = 0 := by have := hja.2 hzz; omega
    have HT : Hid (txt z = [48]) := Lib.hid (by rw [hzz]; rfl)
    subst hj0
    clear hja hD5 hzz HW2
    go_enter Try.func13, Try.ntmps13
    go_wp2_with (go_at_call 26; refine (HW1.out _ _ HR.out.1 HR.out.2 hz).mono ?_; rintro e w2 ⟨rfl, hb2⟩; have hB2 := hz.trans (hb2.mono hz.size); have z2 := x2.on hb2; obtain ⟨p2, p2'⟩ := z2.cells)
    go_ret2
    exact ⟨by rw [HT.out]; rfl, hB2⟩
  · have hj0 : ((ja : Int) == 0) = false := by simp only [beq_eq_false_iff_ne, ne_eq]; exact fun e => hzz (hja.1 e)
    have hD := hD5 (by omega)
    have hDpos : Wt.dig z.natAbs ≠ [] := fun e => hzz (by have := (Wt.dig_nil_iff _).1 e; omega)
    have hDpos2 := List.length_pos_iff.2 hDpos
    have hLm := Wt.dig_Lm z.natAbs
    have HT : Hid (txt z = (if z < 0 then [45] else []) ++ (Wt.dig z.natAbs).reverse.map dbyte) := Lib.hid (by unfold txt; rw [if_neg hzz])
    clear hja hD5 hzz hDpos
    generalize Wt.dig z.natAbs = ds at *
    generalize hDD : ds.length = D at *
    cases na with
    | true =>
      have hneg := of_decide_eq_true HNA.out.symm
      go_enter Try.func13, Try.ntmps13
      go_wp2_with (first
        | (go_at_call 26; refine (HW1.out _ _ HR.out.1 HR.out.2 hz).mono ?_; rintro e w2 ⟨rfl, hb2⟩; have hB2 := hz.trans (hb2.mono hz.size); have z2 := x2.on hb2; obtain ⟨p2, p2'⟩ := z2.cells)
        | (go_at_call 27; refine (HW2.out _ hB2).mono ?_; rintro e w3 ⟨⟨g3, c3, rfl, hcells⟩, hb3⟩; have HCE := Lib.hid hcells; clear hcells; have hB3 := hB2.trans (hb3.mono hB2.size); have z3 := z2.on hb3; obtain ⟨q2, q2'⟩ := z3.cells)
        | (at_make; refine wpList_make_own _ rfl _ _ 43 rfl w3.heap.size 5 i0 (.int .u8 0) 1 Try.underlying43 hi hz0 hz1 _ _ _ (D + 1) rfl rfl rfl (by rw [hz2]; omega) (by unfold maxLen; omega) (Nat.le_refl _) ?_; intro w4 hown hgrow; have hb4 := (Below.refl w3.heap.size w3).grown hgrow (Nat.le_refl _) (fun k e => by cases e); have z4 := z3.on hb4; obtain ⟨r2, r2'⟩ := z4.cells)
        | (at_builtin; refine wpList_append_own _ rfl _ _ 43 rfl w3.heap.size 5 i0 (.int .u8 0) 1 1 Try.underlying43 hi hz0 hz1 hz2 rfl (by decide) _ _ _ rfl (hown.alloc _) ⟨w4.heap.size, 0, none⟩ 1 1 [.int .u8 45] rfl rfl (cell_one_new _ _ _) (by simp [Value.oneCell']) (by unfold maxLen; omega) (by omega) (by simp; have := hb4.size; omega) ?_; intro v' w5 hown5 hgrow5 _; have hb5 := (hb4.alloc hb4.size (.cells #[.int .u8 45] 5)).grown hgrow5 (by simp; have := hb4.size; omega) (fun k e => (hown.lt k e).1)))
      go_loopw [5, 6] (fun v5 v6 wr => TextRel w3.heap.size D [45] ds w3 wr v5 v6) (fun _ v6 _ => (intOf v6 + 1).toNat)
      case atStart => exact ⟨D, Nat.le_refl _, rfl, by simpa [bcells, ← hDD] using hown5, hb5⟩
      case round =>
        obtain ⟨m, hm, rfl, hrow, hbw⟩ := hrel
        rcases Nat.eq_zero_or_pos m with hm0 | hm0
        · subst hm0
          have eT : txt z = [45] ++ (ds.drop 0).reverse.map dbyte := by rw [HT.out, if_pos hneg]; simp
          rw [← eT] at hrow
          have hlen : 0 < (txt z).length := by rw [eT]; simp <;> omega
          obtain ⟨L, hL⟩ : ∃ L, (txt z).length = L + 1 := ⟨(txt z).length - 1, by omega⟩
          rw [hL] at hrow
          obtain ⟨g', cap', rfl⟩ := ownsRow_succ hrow
          have hcv := run_convert_bytes_back (P := Try.prog) wr 43 9 5 ⟨g', 0, none⟩ cap' (txt z) Try.underlying43 Try.underlying5 Try.underlying9
            (fun j hj => hrow.cells (g := g') rfl j _ (by simp [bcells, hj]))
          rw [hL] at hcv
          have hB9 := hB3.trans (hbw.mono hB3.size)
          clear hlen eT hL hrow
          go_wp2
          go_ret2
          exact ⟨rfl, hB9⟩
        · obtain ⟨b, rfl, hcell⟩ := HCE.out (m - 1) (by omega)
          have hcell2 := (hbw.cell (p := ⟨b, m - 1, none⟩) (lt_of_cell hcell)).trans hcell
          have hds := hLm.getD (m - 1)
          have hstep := drop_rev_step [45] ds m hm0 (by omega)
          have hbt := dbyte_toNat hds
          have hlenB : ([45] ++ (ds.drop m).reverse.map dbyte).length ≤ 5125 := by simp; omega
          generalize ds[m - 1]?.getD 0 = d at *
          obtain ⟨x, hx⟩ : ∃ x : Int, x = ((48 + d : Nat) : Int) := ⟨_, rfl⟩
          rw [← hx] at hcell2
          have hx1 : 0 ≤ x ∧ x ≤ 255 := by omega
          have hbx : ((dbyte d).toNat : Int) = x := by rw [hbt, hx]
          have HS := Lib.hid hstep
          have HBX := Lib.hid hbx
          have h1 : (0 : Int) ≤ (m : Int) - 1 := by omega
          have h1' : (1 : Int) ≤ (m : Int) := by omega
          have h2 : (m : Int) - 1 < (D : Int) := by omega
          clear hcell hstep hbt hx hbx hds
          go_wp2_with (at_builtin; refine wpList_append_own _ rfl _ _ 43 rfl w3.heap.size 5 i0 (.int .u8 0) 1 1 Try.underlying43 hi hz0 hz1 hz2 rfl (by decide) _ _ _ rfl (hrow.alloc _) ⟨wr.heap.size, 0, none⟩ 1 1 [.int .u8 x] rfl rfl (cell_one_new _ _ _) (by simp [Value.oneCell']) (by unfold maxLen; omega) (by omega) (by simp; have := hbw.size; omega) ?_; intro v' w7 hrow7 hgrow7 _)
          rw [← HBX.out, bcells_snoc, HS.out] at hrow7
          have hbw7 := (hbw.alloc hbw.size (.cells #[.int .u8 x] 5)).grown hgrow7 (by simp; have := hbw.size; omega) (fun k e => (hrow.lt k e).1)
          go_roundw
          case rel => exact ⟨m - 1, by omega, by congr 1; omega, by rw [← HS.out, List.length_append]; rw [HS.out]; exact hrow7, hbw7⟩
          case measure => simp [intOf]; omega
    | false =>
      have hneg := of_decide_eq_false HNA.out.symm
      go_enter Try.func13, Try.ntmps13
      go_wp2_with (first
        | (go_at_call 26; refine (HW1.out _ _ HR.out.1 HR.out.2 hz).mono ?_; rintro e w2 ⟨rfl, hb2⟩; have hB2 := hz.trans (hb2.mono hz.size); have z2 := x2.on hb2; obtain ⟨p2, p2'⟩ := z2.cells)
        | (go_at_call 27; refine (HW2.out _ hB2).mono ?_; rintro e w3 ⟨⟨g3, c3, rfl, hcells⟩, hb3⟩; have HCE := Lib.hid hcells; clear hcells; have hB3 := hB2.trans (hb3.mono hB2.size); have z3 := z2.on hb3; obtain ⟨q2, q2'⟩ := z3.cells)
        | (at_make; refine wpList_make_own _ rfl _ _ 43 rfl w3.heap.size 5 i0 (.int .u8 0) 1 Try.underlying43 hi hz0 hz1 _ _ _ (D + 1) rfl rfl rfl (by rw [hz2]; omega) (by unfold maxLen; omega) (Nat.le_refl _) ?_; intro w4 hown hgrow; have hb4 := (Below.refl w3.heap.size w3).grown hgrow (Nat.le_refl _) (fun k e => by cases e); have z4 := z3.on hb4; obtain ⟨r2, r2'⟩ := z4.cells))
      go_loopw [5, 6] (fun v5 v6 wr => TextRel w3.heap.size D [] ds w3 wr v5 v6) (fun _ v6 _ => (intOf v6 + 1).toNat)
      case atStart => exact ⟨D, Nat.le_refl _, rfl, by simpa [bcells, ← hDD] using hown, hb4⟩
      case round =>
        obtain ⟨m, hm, rfl, hrow, hbw⟩ := hrel
        rcases Nat.eq_zero_or_pos m with hm0 | hm0
        · subst hm0
          have eT : txt z = [] ++ (ds.drop 0).reverse.map dbyte := by rw [HT.out, if_neg (Int.not_lt.2 hneg)]; simp
          rw [← eT] at hrow
          have hlen : 0 < (txt z).length := by rw [eT]; simp <;> omega
          obtain ⟨L, hL⟩ : ∃ L, (txt z).length = L + 1 := ⟨(txt z).length - 1, by omega⟩
          rw [hL] at hrow
          obtain ⟨g', cap', rfl⟩ := ownsRow_succ hrow
          have hcv := run_convert_bytes_back (P := Try.prog) wr 43 9 5 ⟨g', 0, none⟩ cap' (txt z) Try.underlying43 Try.underlying5 Try.underlying9
            (fun j hj => hrow.cells (g := g') rfl j _ (by simp [bcells, hj]))
          rw [hL] at hcv
          have hB9 := hB3.trans (hbw.mono hB3.size)
          clear hlen eT hL hrow
          go_wp2
          go_ret2
          exact ⟨rfl, hB9⟩
        · obtain ⟨b, rfl, hcell⟩ := HCE.out (m - 1) (by omega)
          have hcell2 := (hbw.cell (p := ⟨b, m - 1, none⟩) (lt_of_cell hcell)).trans hcell
          have hds := hLm.getD (m - 1)
          have hstep := drop_rev_step [] ds m hm0 (by omega)
          have hbt := dbyte_toNat hds
          have hlenB : ([] ++ (ds.drop m).reverse.map dbyte).length ≤ 5125 := by simp; omega
          generalize ds[m - 1]?.getD 0 = d at *
          obtain ⟨x, hx⟩ : ∃ x : Int, x = ((48 + d : Nat) : Int) := ⟨_, rfl⟩
          rw [← hx] at hcell2
          have hx1 : 0 ≤ x ∧ x ≤ 255 := by omega
          have hbx : ((dbyte d).toNat : Int) = x := by rw [hbt, hx]
          have HS := Lib.hid hstep
          have HBX := Lib.hid hbx
          have h1 : (0 : Int) ≤ (m : Int) - 1 := by omega
          have h1' : (1 : Int) ≤ (m : Int) := by omega
          have h2 : (m : Int) - 1 < (D : Int) := by omega
          clear hcell hstep hbt hx hbx hds
          go_wp2_with (at_builtin; refine wpList_append_own _ rfl _ _ 43 rfl w3.heap.size 5 i0 (.int .u8 0) 1 1 Try.underlying43 hi hz0 hz1 hz2 rfl (by decide) _ _ _ rfl (hrow.alloc _) ⟨wr.heap.size, 0, none⟩ 1 1 [.int .u8 x] rfl rfl (cell_one_new _ _ _) (by simp [Value.oneCell']) (by unfold maxLen; omega) (by omega) (by simp; have := hbw.size; omega) ?_; intro v' w7 hrow7 hgrow7 _)
          rw [← HBX.out, bcells_snoc, HS.out] at hrow7
          have hbw7 := (hbw.alloc hbw.size (.cells #[.int .u8 x] 5)).grown hgrow7 (by simp; have := hbw.size; omega) (fun k e => (hrow.lt k e).1)
          go_roundw
          case rel => exact ⟨m - 1, by omega, by congr 1; omega, by rw [← HS.out, List.length_append]; rw [HS.out]; exact hrow7, hbw7⟩
          case measure => simp [intOf]; omega
end Go.Proofs.Ytmbcnfogjncdaaa
namespace Go.Proofs.Ytmbcnfogjncdaaa
open Go.RowKit Wh
def isDig (c : UInt8) : Bool := decide (48 ≤ c.toNat) && decide (c.toNat ≤ 57)
def AreRel (s : ByteArray) (v6 : Value) : Prop := ∃ k : Nat, k ≤ s.size ∧ v6 = .int .i64 (k : Int) ∧ ∀ j (h : j < s.size), j < k → isDig s[j] = true
theorem all_of (s : ByteArray) (h : ∀ j (h : j < s.size), isDig s[j] = true) : s.data.toList.all isDig = true := by
 rw [List.all_eq_true]
 intro c hc
 obtain ⟨j, hj, rfl⟩ := List.mem_iff_getElem.1 hc
 exact h j (by simpa using hj)
theorem not_all_of (s : ByteArray) (j : Nat) (h : j < s.size) (hd : isDig s[j] = false) : s.data.toList.all isDig = false := by
 rw [List.all_eq_false]
 exact ⟨s[j], List.getElem_mem (l := s.data.toList) (by simpa using h), by simp [hd]⟩
theorem areDigits_any (s : ByteArray) (hs : s.size ≤ maxLen) (w : World) :
    Calls Try.prog 32 #[.string s] w fun e w' => e = .returned (.bool (s.data.toList.all isDig && decide (0 < s.size))) ∧ w = w' := by
  unfold maxLen at hs
  obtain ⟨r, hr⟩ : ∃ r, r = (s.data.toList.all isDig && decide (0 < s.size)) := ⟨_, rfl⟩
  rw [← hr]
  have HR := Lib.hid hr
  clear hr
  go_enter Try.func32, Try.ntmps32
  go_wp2
  go_loop [6] (fun v6 => AreRel s v6) (fun v6 => s.size - (intOf v6).toNat)
  case atStart => exact ⟨0, Nat.zero_le _, rfl, fun j _ h => absurd h (Nat.not_lt_zero _)⟩
  case round =>
    obtain ⟨k, hk, rfl, hz⟩ := hrel
    have HZ := Lib.hid hz
    clear hz
    rcases Nat.lt_or_ge k s.size with hlt | hge
    · rcases Nat.lt_or_ge s[k].toNat 48 with h1 | h1
      · have HX := Lib.hid (not_all_of s k hlt (by simp [isDig]; omega))
        have h1' : (s[k].toNat : Int) < 48 := by omega
        go_wp2
        go_ret
        exact ⟨by rw [HR.out, HX.out]; rfl, rfl⟩
      · rcases Nat.lt_or_ge 57 s[k].toNat with h2 | h2
        · have HX := Lib.hid (not_all_of s k hlt (by simp [isDig]; omega))
          have h1' : ¬ (s[k].toNat : Int) < 48 := by omega
          have h2' : (57 : Int) < (s[k].toNat : Int) := by omega
          go_wp2
          go_ret
          exact ⟨by rw [HR.out, HX.out]; rfl, rfl⟩
        · have HX := Lib.hid (show isDig s[k] = true by simp [isDig]; omega)
          have h1' : ¬ (s[k].toNat : Int) < 48 := by omega
          have h2' : ¬ (57 : Int) < (s[k].toNat : Int) := by omega
          go_wp2
          case roundEnd =>
            refine ⟨⟨k + 1, by omega, by go_num, fun j h hj => ?_⟩, by simp [intOf]; omega⟩
            by_cases e : j = k
            · subst e; exact HX.out
            · exact HZ.out j h (by omega)
    · have HX := Lib.hid (all_of s fun j h => HZ.out j h (by omega))
      go_wp2
      go_ret
      exact ⟨by rw [HR.out, HX.out]; rfl, rfl⟩
theorem Parse_007 (w : World) :
  Calls Try.prog 15 #[.string ⟨#[48, 48, 55]⟩] w fun e w' => e = .returned (.tuple #[zeroW, .int .i64 10]) ∧ Below w.heap.size w w' := by
 have hw1 := fun W => areDigits_any ⟨#[48, 48, 55]⟩ (by decide) W
 rw [show ((⟨#[48, 48, 55]⟩ : ByteArray).data.toList.all isDig && decide (0 < (⟨#[48, 48, 55]⟩ : ByteArray).size)) = true by decide] at hw1
 have HW1 := Lib.hid hw1
 clear hw1
 have hz := (Below.refl w.heap.size w).alloc (Nat.le_refl _) (.cells #[.bool false, .slice none 0 0] 26)
 go_enter Try.func15, Try.ntmps15
 go_wp2_with (go_at_call 32; refine (HW1.out _).mono ?_; rintro e w2 ⟨rfl, rfl⟩)
 exact bodyPost_ret (v := .tuple #[zeroW, .int .i64 10]) (by simp [results, Try.results15, go_sem]) rfl ⟨rfl, hz⟩
end Go.Proofs.Ytmbcnfogjncdaaa
namespace Go.Proofs.Ytmbcnfogjncdaaa
open Go.RowKit Wh
def SameRel (l l' : List Nat) (w wr : World) (X2 X3 : Nat) (x2 y2 x3 y3 : Value) (v5 : Value) : Prop :=
 ∃ k : Nat, k ≤ l.length ∧ v5 = .int .i64 (k : Int) ∧ (∀ j, j < k → l[j]?.getD 0 = l'[j]?.getD 0) ∧ Below w.heap.size w wr ∧ Bx wr X2 x2 y2 ∧ Bx wr X3 x3 y3
theorem belowN {B : Nat} {a w : World} (h : Below B a w) (n : Nat) : Below B a (w.drewN n) := h.trans ⟨rfl, rfl, rfl, Nat.le_refl _, fun _ _ => rfl⟩
theorem Bx.drewN {W : World} {B : Nat} {x y : Value} (h : Bx W B x y) (n : Nat) : Bx (W.drewN n) B x y := h
theorem eq_of_all {l l' : List Nat} (h : l.length = l'.length) (hz : ∀ j, j < l.length → l[j]?.getD 0 = l'[j]?.getD 0) : l = l' := by
 refine List.ext_getElem h fun j h1 h2 => ?_
 have := hz j h1
 rwa [getD_lt_length h1, getD_lt_length h2] at this
theorem cell_of_lim {W : World} {b off n cap : Nat} {l : List Nat} (h : Lim W (.slice (some ⟨b, off, none⟩) n cap) l) (j : Nat) (hj : j < l.length) : W.cell? ⟨b, off + j, none⟩ = some (.int .u16 ((l[j]?.getD 0 : Nat) : Int)) := by
 obtain ⟨b', off', e, -, hc⟩ := h.block (fun e => by rw [e] at hj; simp at hj)
 cases e
 exact hc j hj
theorem lim_addr {W : World} {a : Option Addr} {n cap : Nat} {l : List Nat} (h : Lim W (.slice a n cap) l) (hl : 0 < l.length) : ∃ b off, a = some ⟨b, off, none⟩ := by
 obtain ⟨b', off', e, -, -⟩ := h.block (fun e => by rw [e] at hl; simp at hl)
 exact ⟨b', off', e⟩
theorem refSame_any (b : Bool) (s : Value) (l : List Nat) (b' : Bool) (s' : Value) (l' : List Nat) (w : World) (h : Lim w s l) (g : Lim w s' l') :
    Calls Try.prog 25 #[.agg #[.bool b, s], .agg #[.bool b', s']] w fun e w' => e = .returned (.bool (decide (b = b' ∧ l = l'))) ∧ Below w.heap.size w w' := by
  obtain ⟨aa, ca, rfl, hlc, ⟨hcm, hcl, -⟩, -⟩ := id h
  obtain ⟨ab, cb, rfl, glc, ⟨gcm, gcl, -⟩, -⟩ := id g
  have hz := ((Below.refl w.heap.size w).alloc (Nat.le_refl _) (.cells #[.bool b, .slice aa l.length ca] 26)).alloc (by simp) (.cells #[.bool b', .slice ab l'.length cb] 26)
  have x2 := (Bx.new w (.bool b) (.slice aa l.length ca)).alloc (.cells #[.bool b', .slice ab l'.length cb] 26)
  have x3 := Bx.new (w.alloc (.cells #[.bool b, .slice aa l.length ca] 26)) (.bool b') (.slice ab l'.length cb)
  simp only [World.size_alloc] at x3
  obtain ⟨r, hr⟩ : ∃ r, r = decide (b = b' ∧ l = l') := ⟨_, rfl⟩
  rw [← hr]
  have HR := Lib.hid hr
  clear hr
  by_cases hb : b = b'
  · subst hb
    by_cases hl : l.length = l'.length
    · have hl0 : ((l.length : Int) != (l'.length : Int)) = false := by simp [hl]
      have HL := Lib.hid hl
      clear hl
      go_enter Try.func25, Try.ntmps25
      go_wp2
      go_loopw [5] (fun v5 wr => SameRel l l' w wr w.heap.size (w.heap.size + 1) (.bool b) (.slice aa l.length ca) (.bool b) (.slice ab l'.length cb) v5) (fun v5 _ => l.length - (intOf v5).toNat)
      case atStart => exact ⟨0, Nat.zero_le _, rfl, fun j h => absurd h (Nat.not_lt_zero _), hz, x2, x3⟩
      case round =>
        obtain ⟨k, hk, rfl, hz1, hB, y2, y3⟩ := hrel
        obtain ⟨p2, p2'⟩ := y2.cells
        obtain ⟨p3, p3'⟩ := y3.cells
        have HZ := Lib.hid hz1
        clear hz1
        rcases Nat.lt_or_ge k l.length with hlt | hge
        · have hlt' : k < l'.length := by rw [← HL.out]; exact hlt
          obtain ⟨b1, o1, rfl⟩ := lim_addr h (by omega)
          obtain ⟨b2, o2, rfl⟩ := lim_addr g (by omega)
          have c1 := cell_of_lim (h.below hB (Nat.le_refl _)) k hlt
          have c2 := cell_of_lim (g.below hB (Nat.le_refl _)) k hlt'
          have i1 : (k : Int) < (l.length : Int) := by omega
          have i2 : (k : Int) < (l'.length : Int) := by omega
          have i0 : (0 : Int) ≤ (k : Int) := by omega
          obtain ⟨x, hx⟩ : ∃ x, x = l[k]?.getD 0 := ⟨_, rfl⟩
          obtain ⟨y, hy⟩ : ∃ y, y = l'[k]?.getD 0 := ⟨_, rfl⟩
          rw [← hx] at c1
          rw [← hy] at c2
          have HX := Lib.hid hx
          have HY := Lib.hid hy
          clear hx hy
          by_cases hxy : x = y
          · have hxy0 : ((x : Int) != (y : Int)) = false := by simp [hxy]
            have HXY := Lib.hid hxy
            clear hxy
            go_wp2
            go_quiet (fail)
            go_wp2
            case roundEnd =>
              refine ⟨⟨k + 1, by omega, by go_num, fun j hj => ?_, belowN hB _, y2.drewN _, y3.drewN _⟩, by simp [intOf]; omega⟩
              by_cases e : j = k
              · subst e; rw [← HX.out, ← HY.out]; exact HXY.out
              · exact HZ.out j (by omega)
          · have hxy0 : ((x : Int) != (y : Int)) = true := by simp; omega
            have HXY := Lib.hid hxy
            clear hxy
            go_wp2
            go_quiet (fail)
            go_wp2
            have hr0 : r = false := by
              rw [HR.out]
              exact decide_eq_false fun e => HXY.out (by rw [HX.out, HY.out, e.2])
            go_ret
            exact ⟨by rw [hr0]; rfl, belowN hB _⟩
        · have hge' : ¬ (k : Int) < (l.length : Int) := by omega
          go_wp2
          have hr0 : r = true := by
            rw [HR.out]
            have E := eq_of_all HL.out fun j hj => HZ.out j (by omega)
            exact decide_eq_true (by first | exact ⟨rfl, E⟩ | exact ⟨trivial, E⟩ | exact E)
          go_ret
          exact ⟨by rw [hr0]; rfl, hB⟩
    · have hl0 : ((l.length : Int) != (l'.length : Int)) = true := by simp; omega
      have hr0 : Hid (r = false) := Lib.hid (by rw [HR.out]; exact decide_eq_false fun e => hl (by rw [e.2]))
      clear hl
      go_enter Try.func25, Try.ntmps25
      go_wp2
      go_ret
      exact ⟨by rw [hr0.out]; rfl, hz⟩
  · have hb0 : b' = !b := by cases b <;> cases b' <;> simp at hb ⊢
    have hr0 : Hid (r = false) := Lib.hid (by rw [HR.out]; exact decide_eq_false fun e => hb e.1)
    subst hb0
    clear hb
    go_enter Try.func25, Try.ntmps25
    go_wp2
    go_ret
    exact ⟨by rw [hr0.out]; rfl, hz⟩
theorem refMake_any (b : Bool) (s : Value) (l : List Nat) (w : World) (h : Lim w s l) :
    Calls Try.prog 38 #[.bool b, s] w fun e w' => e = .returned (.agg #[.bool (b && decide (l ≠ [])), s]) ∧ Below w.heap.size w w' := by
  obtain ⟨a, cap, rfl, hlc, ⟨hcm, hcl, hcn⟩, hcs⟩ := id h
  clear hcn hcs
  cases b with
  | false =>
    go_enter Try.func38, Try.ntmps38
    go_wp2
    exact bodyPost_ret (v := .agg #[.bool false, .slice a l.length cap]) (by simp [results, Try.results38, go_sem]) rfl ⟨by simp, (Below.refl _ _).alloc (Nat.le_refl _) _⟩
  | true =>
    by_cases hl : l = []
    · subst hl
      go_enter Try.func38, Try.ntmps38
      go_wp2
      exact bodyPost_ret (v := .agg #[.bool false, .slice a 0 cap]) (by simp [results, Try.results38, go_sem]) rfl ⟨by simp, (Below.refl _ _).alloc (Nat.le_refl _) _⟩
    · have h0 : (0 : Int) < (l.length : Int) := by have := List.length_pos_iff.2 hl; omega
      go_enter Try.func38, Try.ntmps38
      go_wp2
      have hpos : 0 < l.length := List.length_pos_iff.2 hl
      exact bodyPost_ret (v := .agg #[.bool true, .slice a l.length cap]) (by simp [results, Try.results38, go_sem, hpos]) rfl ⟨by simp [hl], (Below.refl _ _).alloc (Nat.le_refl _) _⟩
end Go.Proofs.Ytmbcnfogjncdaaa
