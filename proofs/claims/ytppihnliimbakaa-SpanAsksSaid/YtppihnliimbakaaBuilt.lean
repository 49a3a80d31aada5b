/-
'Built': a set of at most 60 spans, out of whatever numbers.
-/
import Derived.Test.YtppihnliimbakaaAwake
namespace Go.Proofs.Ytppihnliimbakaa
open Go.RowKit Go.Shelf Sp

/-- The slice value v holds the numbers l, each of two bytes. -/
def Lim (W : World) (v : Value) (l : List Nat) : Prop :=
  ∃ a cap, v = .slice a l.length cap ∧ l.length ≤ cap ∧ (cap ≤ 9223372036854775807 ∧ l.length ≤ 70368744175616 ∧ (a = none → cap = 0)) ∧
    (l = [] ∨ ∃ b off, a = some ⟨b, off, none⟩ ∧ ∀ j, j < l.length → W.cell? ⟨b, off + j, none⟩ = some (.int .u16 ((l[j]?.getD 0 : Nat) : Int)))
def Lm (l : List Nat) : Prop := ∀ x ∈ l, x < 65536
theorem Lm.getD {l : List Nat} (h : Lm l) (j : Nat) : l[j]?.getD 0 < 65536 := by
  rcases Nat.lt_or_ge j l.length with hj | hj
  · rw [List.getElem?_eq_getElem hj]; exact h _ (List.getElem_mem hj)
  · rw [List.getElem?_eq_none hj]; decide
theorem Lim.nil (W : World) : Lim W (.slice none 0 0) [] := ⟨none, 0, rfl, by simp, ⟨by omega, by simp, fun _ => rfl⟩, .inl rfl⟩
theorem Lim.block {W : World} {a : Option Addr} {n cap : Nat} {l : List Nat} (h : Lim W (.slice a n cap) l) (hl : l ≠ []) : ∃ b off, a = some ⟨b, off, none⟩ ∧ b < W.heap.size ∧ ∀ j, j < l.length → W.cell? ⟨b, off + j, none⟩ = some (.int .u16 ((l[j]?.getD 0 : Nat) : Int)) := by
  obtain ⟨a', cap', e, _, _, h⟩ := h
  cases e
  rcases h with h | ⟨b, off, rfl, hc⟩
  · exact absurd h hl
  · exact ⟨b, off, rfl, lt_of_cell (hc 0 (by cases l with | nil => exact absurd rfl hl | cons => simp)), hc⟩
theorem Lim.below {W W' : World} {B : Nat} {v : Value} {l : List Nat} (h : Lim W v l) (hB : Below B W W') (hs : W.heap.size ≤ B) : Lim W' v l := by
  obtain ⟨a, cap, rfl, h1, h2, h⟩ := h
  refine ⟨a, cap, rfl, h1, h2, ?_⟩
  rcases h with h | ⟨b, off, rfl, hc⟩
  · exact .inl h
  · exact .inr ⟨b, off, rfl, fun j hj => (hB.cell (p := ⟨b, off + j, none⟩) (Nat.lt_of_lt_of_le (lt_of_cell (hc j hj)) hs)).trans (hc j hj)⟩

/-- A set that the call has made. -/
def Makes (w : World) (e : Ending) (w' : World) : Prop := (∃ v l, e = .returned v ∧ IsSet l ∧ l.length ≤ 60 ∧ w'.ownsRow w.heap.size 34 2 v l.length (cellsS l)) ∧ Below w.heap.size w w'

set_option maxRecDepth 100000 in
set_option maxHeartbeats 4000000 in
theorem Built_any (v : Value) (l : List Nat) (hl : Lm l) (w : World) (h : Lim w v l) : Calls Try.prog 15 #[v] w (Makes w) := by
  have h' := h
  obtain ⟨a, cap, rfl, hlc, ⟨hcm, hcl, hcn⟩, hcs⟩ := h'
  clear hcn hcs
  have HS := Lib.hid h
  have HL := Lib.hid hl
  clear h hl
  obtain ⟨i0, hi, hz0, hz1, hz2⟩ := info_parts Try.infoS
  go_enter Try.func15, Try.ntmps15
  go_wp2_with fail
  go_loopw [3, 4, 5] (fun o t i wr => ∃ (b : L) (at' : Int) (k : Nat), k ≤ 122 ∧ i = .int .i64 k ∧ t = .int .i64 at' ∧ (-1 ≤ at' ∧ at' ≤ 65536) ∧ b.length * 2 ≤ k ∧ b.length ≤ 60 ∧ Hid (IsSet b ∧ lastTo (-1) b = at') ∧ Hid (wr.ownsRow w.heap.size 34 2 o b.length (cellsS b)) ∧ Below w.heap.size w wr) (fun _ _ i _ => 122 - (intOf i).toNat)
  case atStart => exact ⟨[], -1, 0, by omega, rfl, rfl, by omega, by simp, by simp, Lib.hid ⟨trivial, rfl⟩, Lib.hid (World.ownsRow_nil _ _ _ _), Below.refl _ _⟩
  case round =>
    obtain ⟨b, at', k, hk, rfl, rfl, ⟨t1, t2⟩, hbl, hb60, HI, HO, hb⟩ := hrel
    by_cases hlt : k + 1 < l.length
    · have i1 : (k : Int) + 1 < (l.length : Int) := by omega
      by_cases h120 : k < 120
      · have i2 : (k : Int) < 120 := by omega
        obtain ⟨bb, off, rfl, hbw, hc⟩ := HS.out.block (by intro e; rw [e] at hlt; simp at hlt)
        have c1 := (hb.cell (p := ⟨bb, off + k, none⟩) hbw).trans (hc k (by omega))
        have c2 := (hb.cell (p := ⟨bb, off + (k + 1), none⟩) hbw).trans (hc (k + 1) hlt)
        have u1 := HL.out.getD k
        have u2 := HL.out.getD (k + 1)
        obtain ⟨x, hx⟩ : ∃ x : Nat, x = l[k]?.getD 0 := ⟨_, rfl⟩
        obtain ⟨y, hy⟩ : ∃ y : Nat, y = l[k + 1]?.getD 0 := ⟨_, rfl⟩
        rw [← hx] at c1 u1
        rw [← hy] at c2 u2
        clear hx hy hc
        have i3 : ((k : Int) + 1).toNat = k + 1 := by omega
        obtain ⟨f, hf⟩ : ∃ f, f = at' + 1 + (x : Int) % 3000 := ⟨_, rfl⟩
        obtain ⟨g, hg⟩ : ∃ g, g = f + 1 + (y : Int) % 3000 := ⟨_, rfl⟩
        have HF := Lib.hid hf
        have HG := Lib.hid hg
        clear hf hg
        go_wp2_with fail
        · go_ret
          exact ⟨⟨_, b, rfl, HI.out.1, hb60, HO.out⟩, hb⟩
        · have hle : at' + 1 + (x : Int) % 3000 + 1 + (y : Int) % 3000 ≤ 65536 := by assumption
          refine (to_any _ _ _).mono ?_
          rintro e w1 ⟨rfl, hb1⟩
          have hown := HO.out.kept (grown_of_below hb1) (by cases (u3).ownBlock <;> simp)
          have HB1 := Lib.hid (hb.trans (hb1.mono hb.size))
          have hz1' : w.heap.size ≤ w1.heap.size := HB1.out.size
          have HS2 : Hid (IsSet (b ++ [(f, g)]) ∧ lastTo (-1) (b ++ [(f, g)]) = g) := Lib.hid ⟨chain_snoc.2 ⟨HI.out.1, by show lastTo (-1) b < f; rw [HI.out.2, HF.out]; omega, by show f < g; rw [HG.out]; omega, by show g ≤ 65536; rw [HG.out, HF.out]; exact hle⟩, lastTo_snoc _ _ _⟩
          have g1 : -1 ≤ g ∧ g ≤ 65536 := by rw [HG.out, HF.out]; omega
          have hfe := HF.out
          have hge := HG.out
          rw [hfe] at hge
          rw [← hge, ← hfe]
          have HOW := Lib.hid hown
          clear hb1 hown hle hfe hge hb HF HG
          go_wp2_with (at_builtin; refine wpList_append_own _ rfl _ _ 22 rfl w.heap.size 34 i0 (.agg #[.int .i64 0, .int .i64 0]) 2 16 Try.underlying22 hi hz0 hz1 hz2 rfl (by decide) _ _ _ rfl (HOW.out.alloc _) ⟨w1.heap.size, 0, none⟩ 1 1 [.int .i64 f, .int .i64 g] rfl rfl (cell_two_new _ _ _ _) (by simp [Value.oneCell']) (by unfold maxLen; omega) (by omega) (by simp; omega) ?_; intro v' w4 hown' hgrow _)
          have HE := Lib.hid ((HB1.out.alloc hz1' (.cells #[.int .i64 f, .int .i64 g] 34)).grown hgrow (by simp; omega) (fun k e => (HOW.out.lt k e).1))
          have HN : Hid (w4.ownsRow w.heap.size 34 2 v' (b ++ [(f, g)]).length (cellsS (b ++ [(f, g)]))) := Lib.hid (by rw [cellsS_append, List.length_append]; exact hown')
          clear hown' hgrow
          go_wp2
          go_roundw
          case rel => exact ⟨b ++ [(f, g)], g, k + 2, by omega, by go_num, rfl, g1, by simp; omega, by simp; omega, HS2, HN, HE.out⟩
          case measure => simp [intOf]; omega
      · have i2 : ¬ (k : Int) < 120 := by omega
        go_wp2_with fail
        go_ret
        exact ⟨⟨_, b, rfl, HI.out.1, hb60, HO.out⟩, hb⟩
    · have i1 : ¬ (k : Int) + 1 < (l.length : Int) := by omega
      go_wp2_with fail
      go_ret
      exact ⟨⟨_, b, rfl, HI.out.1, hb60, HO.out⟩, hb⟩
end Go.Proofs.Ytppihnliimbakaa
