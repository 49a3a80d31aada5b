/-
What is left of a bridged set when the set is taken away: the short gaps, each whole.
-/
import Derived.Test.YtppihnliimbakaaWrong
namespace Go.Proofs.Ytppihnliimbakaa
open Sp

theorem not_before {lo : Int} {r : L} (h : Chain lo r) {s : Int × Int} (hs : s ∈ r) : ¬ Mem r (s.1 - 1) := by
  induction r generalizing lo with
  | nil => cases hs
  | cons x t ih =>
    obtain ⟨h1, h2, h3, h4⟩ := h
    rw [mem_cons]
    rcases List.mem_cons.1 hs with rfl | hs
    · rintro (h | h)
      · omega
      · have := h4.lo h; omega
    · rintro (h | h)
      · have : Mem t s.1 := ⟨s, hs, Int.le_refl _, by obtain ⟨i, hi, rfl⟩ := List.getElem_of_mem hs; exact (h4.get hi).2.1⟩
        have := h4.lo this
        omega
      · exact ih h4 hs h
theorem not_behind {lo : Int} {r : L} (h : Chain lo r) {s : Int × Int} (hs : s ∈ r) : ¬ Mem r s.2 := by
  induction r generalizing lo with
  | nil => cases hs
  | cons x t ih =>
    obtain ⟨h1, h2, h3, h4⟩ := h
    rw [mem_cons]
    rcases List.mem_cons.1 hs with rfl | hs
    · rintro (h | h)
      · omega
      · have := h4.lo h; omega
    · rintro (h | h)
      · obtain ⟨i, hi, rfl⟩ := List.getElem_of_mem hs
        have := h4.get hi
        omega
      · exact ih h4 hs h

/-- A day of a gap is no day of the set. -/
theorem gap_not {days : Int} {l : L} (h : IsSet l) {d : Int} (hg : Gap days l d) : ¬ Mem l d := by
  obtain ⟨k, hk, h1, h2, h3⟩ := hg
  rintro ⟨s, hs, m1, m2⟩
  obtain ⟨j, hj, rfl⟩ := List.getElem_of_mem hs
  have mono : ∀ i j, (hij : i < j) → (hj : j < l.length) → (l[i]'(by omega)).2 < (l[j]).1 := by
    intro i j hij
    induction j with
    | zero => omega
    | succ j ih =>
      intro hj
      have h1 := Chain.next h hj
      rcases Nat.lt_or_ge i j with h' | h'
      · have := ih h' (by omega)
        have := h.get (i := j) (by omega)
        omega
      · obtain rfl : i = j := by omega
        exact h1
  rcases Nat.lt_trichotomy j k with hjk | rfl | hjk
  · have := mono j k hjk (by omega); have := h.get (i := k) (by omega); omega
  · omega
  · rcases Nat.lt_or_ge (k + 1) j with hh | hh
    · have := mono (k + 1) j hh hj; have := h.get (i := k + 1) (by omega); omega
    · obtain rfl : j = k + 1 := by omega
      omega

structure GapFacts (days : Int) (l : L) : Prop where
  g1 : IsSet (bridge days l)
  g2 : withinB l (bridge days l) = true
  g3 : bridge days (bridge days l) = bridge days l
  g4 : l.length = 0 ↔ (bridge days l).length = 0
  g5 : ∀ k, 0 < k → k < (bridge days l).length → days < ((bridge days l)[k]?.getD (0, 0)).1 - prevTo (bridge days l) k
  g6 : ∀ k, k < (comb opD (bridge days l) l).length → ((comb opD (bridge days l) l)[k]?.getD (0, 0)).2 - ((comb opD (bridge days l) l)[k]?.getD (0, 0)).1 ≤ days ∧ memB l (((comb opD (bridge days l) l)[k]?.getD (0, 0)).1 - 1) = true ∧ memB l ((comb opD (bridge days l) l)[k]?.getD (0, 0)).2 = true
  g7 : l ≠ [] → ((bridge days l)[0]?.getD (0, 0)).1 = (l[0]?.getD (0, 0)).1 ∧ ((bridge days l)[(bridge days l).length - 1]?.getD (0, 0)).2 = (l[l.length - 1]?.getD (0, 0)).2

theorem gap_facts {days : Int} {l : L} (h : IsSet l) : GapFacts days l := by
  by_cases hl : l = []
  · subst hl
    refine ⟨trivial, ?_, rfl, by simp [bridge], fun k h0 h1 => by simp [bridge] at h1, fun k hk => ?_, fun h => absurd rfl h⟩
    · rw [withinB_iff]; intro d hd; exact absurd hd (mem_nil d)
    · have : comb opD (bridge days []) [] = [] := rfl
      rw [this] at hk
      simp at hk
  · obtain ⟨l', p, rfl⟩ : ∃ l' p, l = l' ++ [p] := ⟨l.dropLast, l.getLast hl, (List.dropLast_concat_getLast hl).symm⟩
    obtain ⟨m, f, e, hf, hset, hmem, hgap, hhead⟩ := bridge_spec (days := days) _ l' p rfl h
    have hsub : ∀ d, Mem (l' ++ [p]) d → Mem (bridge days (l' ++ [p])) d := fun d hd => by rw [e]; exact (hmem d).2 (.inl hd)
    have hne : ∀ d, ¬ Gap days (bridge days (l' ++ [p])) d := by
      rintro d ⟨k, hk, h1, -, -⟩
      have := hgap k (by rw [← e]; exact hk)
      simp only [e] at h1
      omega
    have hb : bridge days (l' ++ [p]) ≠ [] := by rw [e]; simp
    have hset' : IsSet (bridge days (l' ++ [p])) := by rw [e]; exact hset
    refine ⟨hset', (withinB_iff _ _).2 hsub, ?_, ?_, ?_, ?_, fun _ => ⟨?_, ?_⟩⟩
    · obtain ⟨b', q, hbq⟩ : ∃ b' q, bridge days (l' ++ [p]) = b' ++ [q] := ⟨_, _, (List.dropLast_concat_getLast hb).symm⟩
      obtain ⟨m2, f2, e2, -, hset2, hmem2, -⟩ := bridge_spec (days := days) _ b' q rfl (by rw [← hbq]; exact hset')
      rw [← hbq] at e2 hmem2
      have : IsSet (bridge days (bridge days (l' ++ [p]))) := by rw [e2]; exact hset2
      refine set_ext this hset' fun d => ?_
      rw [e2, hmem2]
      constructor
      · rintro (h | h)
        · exact h
        · exact absurd h (hne d)
      · exact .inl
    · rw [e]; simp
    · intro k h0 hk
      have := hgap (k - 1) (by rw [e] at hk; omega)
      rw [getD_eq hk, prevTo_eq h0 (by omega)]
      simp only [e] at this ⊢
      have ek : k - 1 + 1 = k := by omega
      simp only [ek] at this
      exact this
    · intro k hk
      rw [getD_eq hk]
      obtain ⟨c1, c2⟩ := comb_spec opD rfl hset' h
      have hs := List.getElem_mem hk
      generalize (comb opD (bridge days (l' ++ [p])) (l' ++ [p]))[k] = s at hs
      have hr : ∀ d, Mem (comb opD (bridge days (l' ++ [p])) (l' ++ [p])) d ↔ Gap days (l' ++ [p]) d := fun d => by
        rw [c2, opD, Bool.and_eq_true, Bool.not_eq_true', memB_iff, Bool.eq_false_iff, ne_eq, memB_iff, e, hmem]
        constructor
        · rintro ⟨h1 | h1, h2⟩
          · exact absurd h1 h2
          · exact h1
        · intro hg; exact ⟨.inr hg, gap_not h hg⟩
      have n1 := not_before c1 hs
      have n2 := not_behind c1 hs
      have hlt : s.1 < s.2 := by obtain ⟨i, hi, rfl⟩ := List.getElem_of_mem hs; exact (c1.get hi).2.1
      have hm1 : Mem (comb opD (bridge days (l' ++ [p])) (l' ++ [p])) s.1 := ⟨s, hs, Int.le_refl _, hlt⟩
      obtain ⟨j, hj, j1, j2, j3⟩ := (hr s.1).1 hm1
      have ej := h.get (i := j) (by omega)
      have ej1 := h.get (i := j + 1) (by omega)
      rw [hr] at n1 n2
      have q1 : s.1 = ((l' ++ [p])[j]'(by omega)).2 := by
        rcases Int.lt_or_le ((l' ++ [p])[j]'(by omega)).2 s.1 with hh | hh
        · exact absurd ⟨j, hj, j1, by omega, by omega⟩ n1
        · omega
      have q2 : s.2 = ((l' ++ [p])[j + 1]).1 := by
        rcases Int.lt_trichotomy s.2 ((l' ++ [p])[j + 1]).1 with hh | hh | hh
        · exact absurd ⟨j, hj, j1, by omega, hh⟩ n2
        · exact hh
        · have hin : Mem (comb opD (bridge days (l' ++ [p])) (l' ++ [p])) ((l' ++ [p])[j + 1]).1 := ⟨s, hs, by omega, hh⟩
          have := gap_not h ((hr _).1 hin)
          exact absurd ⟨_, List.getElem_mem hj, Int.le_refl _, ej1.2.1⟩ this
      refine ⟨by omega, (memB_iff _ _).2 ⟨_, List.getElem_mem (show j < _ by omega), by omega, by omega⟩, (memB_iff _ _).2 ⟨_, List.getElem_mem hj, by omega, by omega⟩⟩
    · rw [e]
      have hh := hhead
      have a1 : 0 < (m ++ [(f, p.2)]).length := by simp
      have a2 : 0 < (l' ++ [p]).length := by simp
      rw [List.head?_eq_getElem?, List.head?_eq_getElem?, List.getElem?_eq_getElem a1, List.getElem?_eq_getElem a2] at hh
      rw [getD_eq a1, getD_eq a2]
      simpa using hh
    · rw [e]; simp

end Go.Proofs.Ytppihnliimbakaa
