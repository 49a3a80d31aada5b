/- A part of the proofs about fractions. -/
import Derived.Shelf.RegionOpen
import Derived.Test.YtmbcnfogjncdaaaGreatQFl3
set_option maxRecDepth 100000
set_option maxHeartbeats 4000000
namespace Go.Proofs.YtmbcnfogjncdaaaGreat
open Go.RowKit Wh
theorem mul_sign (a b : Int) : ((decide (a < 0) != decide (b < 0)) && decide (dig (a * b).natAbs ≠ [])) = decide (a * b < 0) := by
  rw [Bool.eq_iff_iff]
  simp only [Bool.and_eq_true, bne_iff_ne, ne_eq, decide_eq_true_eq, decide_eq_decide, dig_nil_iff, Int.natAbs_eq_zero, Int.mul_eq_zero, not_or]
  constructor
  · rintro ⟨h1, h2, h3⟩
    by_cases ha : a < 0
    · have hb : 0 < b := by omega
      exact Int.mul_neg_of_neg_of_pos ha hb
    · have hb : b < 0 := by omega
      exact Int.mul_neg_of_pos_of_neg (by omega) hb
  · intro h
    have h0 : a ≠ 0 := fun e => by simp [e] at h
    have h1 : b ≠ 0 := fun e => by simp [e] at h
    refine ⟨fun e => ?_, h0, h1⟩
    by_cases ha : a < 0
    · have := Int.mul_pos_of_neg_of_neg ha (e.1 ha); omega
    · have hb : ¬ b < 0 := fun hb => ha (e.2 hb)
      have := Int.mul_nonneg (show 0 ≤ a by omega) (show 0 ≤ b by omega); omega
theorem lim_slice {W : World} {v : Value} {l : List Nat} (h : Lim W v l) : ∃ a cap, v = .slice a l.length cap := by
 obtain ⟨a, cap, e, -⟩ := h; exact ⟨a, cap, e⟩
theorem product_any (va vb : Value) (a b : Int) (ha : (dig a.natAbs).length ≤ 16384) (hb : (dig b.natAbs).length ≤ 16384) (w : World) (h : Num w va a) (g : Num w vb b) :
  Calls Tryz.prog 139 #[va, vb] w fun e w' => (∃ v, e = .returned v ∧ NumF w.heap.size w' v (a * b)) ∧ Below w.heap.size w w' := by
 obtain ⟨sa, rfl, la⟩ := h
 obtain ⟨sb, rfl, lb⟩ := g
 have hw1 := fun W (hW : Below w.heap.size w W) => multiply_any sa sb (dig a.natAbs) (dig b.natAbs) (dig_Lm _) (dig_Lm _) ha hb W (la.below hW (Nat.le_refl _)) (lb.below hW (Nat.le_refl _))
 rw [val_dig, val_dig, ← Int.natAbs_mul] at hw1
 have hw2 := fun W s (hl : Lim W s (dig (a * b).natAbs)) => number_any (decide (a < 0) != decide (b < 0)) s (dig (a * b).natAbs) W hl
 rw [mul_sign] at hw2
 have HW1 := Lib.hid hw1
 have HW2 := Lib.hid hw2
 obtain ⟨aa, ca, rfl⟩ := lim_slice la
 obtain ⟨ab, cb, rfl⟩ := lim_slice lb
 clear hw1 hw2 la lb ha hb
 obtain ⟨na, hna⟩ : ∃ n, n = decide (a < 0) := ⟨_, rfl⟩
 obtain ⟨nb, hnb⟩ : ∃ n, n = decide (b < 0) := ⟨_, rfl⟩
 obtain ⟨z, hzz⟩ : ∃ z, z = a * b := ⟨_, rfl⟩
 obtain ⟨ja, hja⟩ : ∃ n, n = (dig a.natAbs).length := ⟨_, rfl⟩
 obtain ⟨jb, hjb⟩ : ∃ n, n = (dig b.natAbs).length := ⟨_, rfl⟩
 rw [← hzz, ← hja, ← hjb] at HW1
 rw [← hna, ← hnb, ← hzz] at HW2
 rw [← hna, ← hnb, ← hzz, ← hja, ← hjb]
 clear hna hnb hzz hja hjb
 have hz := (((Below.refl w.heap.size w).alloc (Nat.le_refl _) (.cells #[.bool na, .slice aa ja ca] 24)).alloc (by simp) (.cells #[.bool nb, .slice ab jb cb] 24)).alloc (by simp <;> omega) (.cells #[.bool false, .slice none 0 0] 24)
 have x2 := ((Bx.new w (.bool na) (.slice aa ja ca)).alloc (.cells #[.bool nb, .slice ab jb cb] 24)).alloc (.cells #[.bool false, .slice none 0 0] 24)
 have x3 := (Bx.new (w.alloc (.cells #[.bool na, .slice aa ja ca] 24)) (.bool nb) (.slice ab jb cb)).alloc (.cells #[.bool false, .slice none 0 0] 24)
 have x4 := Bx.new ((w.alloc (.cells #[.bool na, .slice aa ja ca] 24)).alloc (.cells #[.bool nb, .slice ab jb cb] 24)) (.bool false) (.slice none 0 0)
 simp only [World.size_alloc] at x3 x4
 have n2 : w.heap.size + 1 + 1 ≠ w.heap.size := by omega
 have n3 : w.heap.size + 1 + 1 ≠ w.heap.size + 1 := by omega
 go_enter Tryz.func139, Tryz.ntmps139
 go_wp2_with fail
 obtain ⟨W0, hW0⟩ : ∃ W0, W0 = (((w.alloc (.cells #[.bool na, .slice aa ja ca] 24)).alloc (.cells #[.bool nb, .slice ab jb cb] 24)).alloc (.cells #[.bool false, .slice none 0 0] 24)) := ⟨_, rfl⟩
 have hs0 : w.heap.size + 3 ≤ W0.heap.size := by rw [hW0]; simp
 rw [← hW0] at hz x2 x3 x4 ⊢
 clear hW0
 obtain ⟨p2, p2'⟩ := x2.cells
 obtain ⟨p3, p3'⟩ := x3.cells
 go_region_held3 (fun w' => w'.cell? ⟨w.heap.size, 0, none⟩ = some (.bool na) ∧ w'.cell? ⟨w.heap.size, 1, none⟩ = some (.slice aa ja ca) ∧ w'.cell? ⟨w.heap.size + 1, 0, none⟩ = some (.bool nb) ∧ w'.cell? ⟨w.heap.size + 1, 1, none⟩ = some (.slice ab jb cb))
  (first | go_keep | exact ⟨cell_store r2 n2, cell_store r2' n2, cell_store r3 n3, cell_store r3' n3⟩)
  (first
  | (go_at_call 171; refine (HW1.out _ hz.drew).mono ?_; rintro e w2 ⟨⟨s, rfl, hl⟩, hb2⟩; obtain ⟨a3, c3, rfl⟩ := lf_slice hl; have hs2 := Nat.le_trans hs0 hb2.size; have hB2 := hz.drew.trans (hb2.mono hz.size); have z2 := x2.ond hb2; obtain ⟨q2, q2'⟩ := z2.cells; have z3 := x3.ond hb2; obtain ⟨q3, q3'⟩ := z3.cells; have z4 := x4.ond hb2)
  | (go_at_call 58; refine (HW2.out _ _ hl.1).mono ?_; rintro e w3 ⟨rfl, hb3⟩; have hB3 := hB2.trans (hb3.mono hB2.size); have u2 := z2.on hb3; obtain ⟨r2, r2'⟩ := u2.cells; have u3 := z3.on hb3; obtain ⟨r3, r3'⟩ := u3.cells; have v4 := z4.on hb3; obtain ⟨p4, p4'⟩ := v4.cells; obtain ⟨f4, f4'⟩ := v4.free))
 go_wp2
 have hl3 := ((hl.below hb3).put (B' := w.heap.size + 1 + 1) (Nat.lt_of_lt_of_le (by omega) hs0) (.bool (decide (z < 0))) (.slice a3 (dig z.natAbs).length c3)).mono hz.size
 obtain ⟨k4, k4'⟩ := (v4.put (.bool (decide (z < 0))) (.slice a3 (dig z.natAbs).length c3)).cells
 exact bodyPost_ret (v := .agg #[.bool (decide (z < 0)), .slice a3 (dig z.natAbs).length c3]) (by simp [results, Tryz.results139, go_sem, k4, k4']) rfl ⟨⟨_, rfl, _, rfl, hl3⟩, Below.put hB3 (by omega) _ _⟩
end Go.Proofs.YtmbcnfogjncdaaaGreat
namespace Go.Proofs.YtmbcnfogjncdaaaGreat
open Go.RowKit Go.Shelf Wh
attribute [local go_sem] Oper.semAt_some
theorem made_zero (n : Nat) : (madeCells (Value.int .u16 0).cells (n * 1)).toList = cellsOf (List.replicate n 0) := by
  have e : (Value.int .u16 0).cells = #[.int .u16 0] := rfl
  rw [e, Nat.mul_one]
  unfold madeCells cellsOf
  apply List.ext_getElem
  · simp
  · intro i h1 h2
    simp [Nat.mod_one]
def ds (l : List Nat) (b : Nat) (pre : List (Ix l)) : Nat × List Nat :=
 pre.foldl (fun s i => ((s.1 * 65536 + l[i.1]?.getD 0) % b, s.2.set i.1 ((s.1 * 65536 + l[i.1]?.getD 0) / b))) (0, List.replicate l.length 0)
theorem ds_snoc (l : List Nat) (b : Nat) (pre : List (Ix l)) (x : Ix l) : ds l b (pre ++ [x]) = (((ds l b pre).1 * 65536 + l[x.1]?.getD 0) % b, (ds l b pre).2.set x.1 (((ds l b pre).1 * 65536 + l[x.1]?.getD 0) / b)) := by
 simp [ds]
theorem foldl_keeps {α β : Type} (P : β → Prop) (f : β → α → β) (h : ∀ s x, P s → P (f s x)) (l : List α) (s : β) (hs : P s) : P (l.foldl f s) := by
 induction l generalizing s with
 | nil => exact hs
 | cons x l ih => exact ih _ (h s x hs)
theorem ds_length (l : List Nat) (b : Nat) (pre : List (Ix l)) : (ds l b pre).2.length = l.length :=
 foldl_keeps (fun s : Nat × List Nat => s.2.length = l.length) _ (fun s x h => by simpa using h) pre _ (by simp)
theorem ds_lt (l : List Nat) (b : Nat) (hb : 0 < b) (pre : List (Ix l)) : (ds l b pre).1 < b :=
 foldl_keeps (fun s : Nat × List Nat => s.1 < b) _ (fun s x _ => Nat.mod_lt _ hb) pre _ (by simpa using hb)
def dsn (l : List Nat) (b : Nat) (is : List Nat) : Nat × List Nat :=
 is.foldl (fun s i => ((s.1 * 65536 + l[i]?.getD 0) % b, s.2.set i ((s.1 * 65536 + l[i]?.getD 0) / b))) (0, List.replicate l.length 0)
theorem ds_map (l : List Nat) (b : Nat) (pre : List (Ix l)) : ds l b pre = dsn l b (pre.map Subtype.val) := by
 rw [dsn, List.foldl_map]; rfl
theorem dsn_down (l : List Nat) (hl : Lm l) (b : Nat) (hb : 0 < b) (m : Nat) (hm : m ≤ l.length) :
    (dsn l b ((List.range l.length).reverse.take m)).1 = val (l.drop (l.length - m)) % b ∧ (dsn l b ((List.range l.length).reverse.take m)).2.length = l.length ∧ Lm (dsn l b ((List.range l.length).reverse.take m)).2 ∧
      val (dsn l b ((List.range l.length).reverse.take m)).2 = 65536 ^ (l.length - m) * (val (l.drop (l.length - m)) / b) ∧ ∀ j, j < l.length - m → (dsn l b ((List.range l.length).reverse.take m)).2[j]?.getD 0 = 0 := by
  induction m with
  | zero =>
    refine ⟨by simp [dsn], by simp [dsn], ?_, ?_, fun j hj => ?_⟩
    · intro x hx
      simp [dsn] at hx
      omega
    · simp [dsn, val_replicate_zero]
    · simp at hj; simp [dsn, hj]
  | succ m ih =>
    obtain ⟨i1, i2, i3, i4, i5⟩ := ih (by omega)
    have ht : (List.range l.length).reverse.take (m + 1) = (List.range l.length).reverse.take m ++ [l.length - (m + 1)] := by
      have := take_down (n := l.length) (m := l.length - (m + 1)) (by omega)
      rw [show l.length - (l.length - (m + 1)) = m + 1 from by omega, show l.length - (l.length - (m + 1) + 1) = m from by omega] at this
      exact this
    have hs : dsn l b ((List.range l.length).reverse.take (m + 1)) = (((dsn l b ((List.range l.length).reverse.take m)).1 * 65536 + l[l.length - (m + 1)]?.getD 0) % b, (dsn l b ((List.range l.length).reverse.take m)).2.set (l.length - (m + 1)) (((dsn l b ((List.range l.length).reverse.take m)).1 * 65536 + l[l.length - (m + 1)]?.getD 0) / b)) := by
      rw [ht, dsn, List.foldl_append]; rfl
    rw [hs]
    generalize dsn l b ((List.range l.length).reverse.take m) = s at i1 i2 i3 i4 i5
    obtain ⟨r, q⟩ := s
    simp only at i1 i2 i3 i4 i5 ⊢
    have ek : l.length - m = l.length - (m + 1) + 1 := by omega
    rw [ek] at i1 i4 i5
    generalize hk : l.length - (m + 1) = k at *
    have hkl : k < l.length := by omega
    have hu := hl.getD k
    rw [val_drop_succ hkl]
    generalize val (l.drop (k + 1)) = V at *
    generalize l[k]?.getD 0 = u at *
    have hrb : r < b := by rw [i1]; exact Nat.mod_lt _ hb
    have hV : V = b * (V / b) + r := by rw [i1]; exact (Nat.div_add_mod V b).symm
    have e1 : u + 65536 * V = b * (65536 * (V / b)) + (r * 65536 + u) := by
      conv => lhs; rw [hV]
      rw [Nat.mul_add, ← Nat.mul_assoc, Nat.mul_comm 65536 b, Nat.mul_assoc]
      omega
    have hx : (r * 65536 + u) / b < 65536 := by
      rw [Nat.div_lt_iff_lt_mul hb]
      have : (r + 1) * 65536 ≤ b * 65536 := Nat.mul_le_mul_right _ hrb
      rw [Nat.mul_comm 65536 b]
      omega
    have h0 : q[k]?.getD 0 = 0 := i5 k (by omega)
    refine ⟨?_, by simp [i2], i3.set k hx, ?_, fun j hj => ?_⟩
    · rw [e1, Nat.mul_add_mod]
    · rw [val_set (by omega) h0, i4, e1, Nat.mul_add_div hb, Nat.mul_add, Nat.pow_succ, Nat.mul_assoc]
    · rw [List.getElem?_set_ne (by omega)]; exact i5 j (by omega)
theorem ds_all {l : List Nat} (hl : Lm l) {b : Nat} (hb : 0 < b) {ys : List (Ix l)} (h : Sall l ys) : (ds l b ys).1 = val l % b ∧ Lm (ds l b ys).2 ∧ val (ds l b ys).2 = val l / b := by
 obtain ⟨h1, h2, h3, h4, _⟩ := dsn_down l hl b hb l.length (Nat.le_refl _)
 rw [List.take_of_length_le (by simp), ← show _ = _ from h, ← ds_map] at h1 h3 h4
 simp at h1 h4
 exact ⟨h1, h3, h4⟩
def DsI (B : Nat) (b : Nat) (l : List Nat) (pre : List (Ix l)) (W : World) : Prop :=
 Boxed W B 69 (.int .u64 (b : Int)) ∧ Boxed W (B + 1) 22 (.slice (some ⟨B + 1 + 1 + 1, 0, none⟩) l.length l.length) ∧ Boxed W (B + 1 + 1) 69 (.int .u64 ((ds l b pre).1 : Nat)) ∧
  W.ownsRow (B + 1 + 1 + 1) 59 1 (.slice (some ⟨B + 1 + 1 + 1, 0, none⟩) l.length l.length) l.length (cellsOf (ds l b pre).2)
theorem boxed_own {β : Type} (B : Nat) (t : TypeId) (v : β → Value) : Own (fun s W => Boxed W B t (v s)) := fun s A C row hs hg hr =>
 hs.kept hg (fun e => by obtain ⟨o, ho, hc⟩ := hr _ e.symm; rw [show A.heap[B]? = _ from hs] at ho; cases ho; cases hc)
theorem row_own {β : Type} (B e n : Nat) (v : Value) (xs : β → List Value) : Own (fun s W => W.ownsRow B e 1 v n (xs s)) := fun s A C row hs hg hr => by
  refine hs.kept hg ?_
  rcases hs.2 with ⟨rfl, _⟩ | ⟨g, cap, cur, rfl, _, hgb, _⟩
  · exact .inl rfl
  · refine .inr fun e' => ?_
    obtain ⟨o, ho, hc⟩ := hr g (by simpa [Value.ownBlock] using e'.symm)
    rw [hgb] at ho; cases ho; cases hc
theorem Own.and {β : Type} {I I' : β → World → Prop} (h : Own I) (h' : Own I') : Own (fun s W => I s W ∧ I' s W) := fun s W W' row hs hg hr => ⟨h s W W' row hs.1 hg hr, h' s W W' row hs.2 hg hr⟩
theorem dsI_own (B b : Nat) (l : List Nat) : Own (DsI B b l) :=
 Own.and (boxed_own _ _ (fun _ => _)) (Own.and (boxed_own _ _ (fun _ => _)) (Own.and (boxed_own _ _ _) (row_own _ _ _ _ _)))
theorem KpD.drew {n₀ Bs : Nat} (W : World) : KpD n₀ Bs W W.drew := ⟨(Below.refl _ _).drew, fun _ h => h⟩
theorem Lim.kept {W W' : World} {row : Option Nat} {v : Value} {l : List Nat} (h : Lim W v l) (hg : W.grownBy W' row) (hne : ∀ r, row = some r → v.ownBlock ≠ some r) : Lim W' v l := by
 obtain ⟨a, cap, rfl, h1, h2, h⟩ := h
 refine ⟨a, cap, rfl, h1, h2, ?_⟩
 rcases h with h | ⟨b, off, rfl, hc⟩
 · exact .inl h
 · exact .inr ⟨b, off, rfl, fun j hj => hg.cell (hc j hj) (fun e => hne b e.symm rfl)⟩
theorem Fr.kept {B : Nat} {W W' : World} {row : Option Nat} {v : Value} (h : Fr B W v) (hg : W.grownBy W' row) (hne : ∀ r, row = some r → v.ownBlock ≠ some r) : Fr B W' v := by
 rcases h with h | ⟨g, n, cap, cur, T, rfl, h2, h3, h4⟩
 · exact .inl h
 · exact .inr ⟨g, n, cap, cur, T, rfl, h2, (hg.block g (Array.getElem?_eq_some_iff.1 h3).1 (fun e => hne g e.symm rfl)).trans h3, h4⟩
theorem LimF.kept {B : Nat} {W W' : World} {row : Option Nat} {v : Value} {l : List Nat} (h : LimF B W v l) (hg : W.grownBy W' row) (hne : ∀ r, row = some r → v.ownBlock ≠ some r) : LimF B W' v l := ⟨h.1.kept hg hne, h.2.kept hg hne⟩
theorem Part.own {g o n c : Nat} {v' : Value} (h : Part (.slice (some ⟨g, o, none⟩) n c) v') : ∀ r, r ≠ g → v'.ownBlock ≠ some r := by
  intro r hr
  rcases h with rfl | ⟨a, n', cap', k, e1, rfl, _⟩
  · simp [Value.ownBlock]
  · cases e1
    simp [Value.ownBlock]
    omega
theorem keepsOthers_drew (W : World) : KeepsOthers W W.drew := ⟨Nat.le_refl _, fun _ _ h _ => h⟩
theorem cellsOf_set (q : List Nat) (m z : Nat) : (cellsOf q).set m (.int .u16 (z : Int)) = cellsOf (q.set m z) := by simp [cellsOf, List.map_set]
theorem ds_round {b r r2 z m t : Nat} {l q : List Nat} {pre : List (Ix l)} {x : Ix l} {w W W2 : World} {Bs : Nat}
    (bB : Boxed W w.heap.size 69 (.int .u64 (b : Int))) (bQ : Boxed W (w.heap.size + 1) 22 (.slice (some ⟨w.heap.size + 1 + 1 + 1, 0, none⟩) l.length l.length)) (bR : Boxed W (w.heap.size + 1 + 1) 69 (.int .u64 (r : Int)))
    (hrow : W.ownsRow (w.heap.size + 1 + 1 + 1) 59 1 (.slice (some ⟨w.heap.size + 1 + 1 + 1, 0, none⟩) l.length l.length) l.length (cellsOf q)) (hB : Below w.heap.size w W)
    (hsn : ds l b (pre ++ [x]) = (r2, q.set m z)) (hBs : w.heap.size + 1 + 1 + 1 < Bs) :
    KeepsFrom W2.heap.size W (((W.setCell ⟨w.heap.size + 1 + 1, 0, none⟩ (.int .u64 (t : Int))).setCell ⟨w.heap.size + 1 + 1 + 1, m, none⟩ (.int .u16 (z : Int))).setCell ⟨w.heap.size + 1 + 1, 0, none⟩ (.int .u64 (r2 : Int))).drew ∧
    KpD w.heap.size Bs W (((W.setCell ⟨w.heap.size + 1 + 1, 0, none⟩ (.int .u64 (t : Int))).setCell ⟨w.heap.size + 1 + 1 + 1, m, none⟩ (.int .u16 (z : Int))).setCell ⟨w.heap.size + 1 + 1, 0, none⟩ (.int .u64 (r2 : Int))).drew ∧
    DsI w.heap.size b l (pre ++ [x]) (((W.setCell ⟨w.heap.size + 1 + 1, 0, none⟩ (.int .u64 (t : Int))).setCell ⟨w.heap.size + 1 + 1 + 1, m, none⟩ (.int .u16 (z : Int))).setCell ⟨w.heap.size + 1 + 1, 0, none⟩ (.int .u64 (r2 : Int))).drew ∧
    Below w.heap.size w (((W.setCell ⟨w.heap.size + 1 + 1, 0, none⟩ (.int .u64 (t : Int))).setCell ⟨w.heap.size + 1 + 1 + 1, m, none⟩ (.int .u16 (z : Int))).setCell ⟨w.heap.size + 1 + 1, 0, none⟩ (.int .u64 (r2 : Int))).drew := by
  have h1 := hrow.kept (grownBy_setCell' W (w.heap.size + 1 + 1) (.int .u64 (t : Int))) (.inr (by simp [Value.ownBlock]))
  obtain ⟨h2, g2⟩ := h1.stored m (.int .u16 (z : Int))
  have h3 := h2.kept (grownBy_setCell' _ (w.heap.size + 1 + 1) (.int .u64 (r2 : Int))) (.inr (by simp [Value.ownBlock]))
  rw [cellsOf_set] at h3
  have b1 := ((bB.kept (grownBy_setCell' W (w.heap.size + 1 + 1) (.int .u64 (t : Int))) (by simp <;> omega)).kept g2 (by simp <;> omega)).kept (grownBy_setCell' _ (w.heap.size + 1 + 1) (.int .u64 (r2 : Int))) (by simp <;> omega)
  have b2 := ((bQ.kept (grownBy_setCell' W (w.heap.size + 1 + 1) (.int .u64 (t : Int))) (by simp)).kept g2 (by simp <;> omega)).kept (grownBy_setCell' _ (w.heap.size + 1 + 1) (.int .u64 (r2 : Int))) (by simp)
  have b3 := ((bR.set (.int .u64 (t : Int))).kept g2 (by simp)).set (.int .u64 (r2 : Int))
  refine ⟨((((KeepsOthers.setCell _ _ _).trans (KeepsOthers.setCell _ _ _)).trans (KeepsOthers.setCell _ _ _)).trans (keepsOthers_drew _)).from _, ?_, ?_, ?_⟩
  · exact (((KpD.setCell _ (by simp; omega) (by simp; omega)).trans (KpD.setCell _ (by simp; omega) (by simp; omega))).trans (KpD.setCell _ (by simp; omega) (by simp; omega))).trans (KpD.drew _)
  · unfold DsI
    rw [hsn]
    exact ⟨b1, b2, b3, h3⟩
  · exact (((hB.setCell (by simp; omega) _).setCell (by simp; omega) _).setCell (by simp; omega) _).drew
theorem divideShort_in (F : Fence) (n : Nat) (hf : F.fn 133) (hf2 : F.fn 135) (hf3 : F.fn 169) (hf4 : F.fn 136) (hro : F.round = none) (hn : 4 ≤ n) (sv : Value) (l : List Nat) (hl : Lm l) (hll : l.length ≤ 1048000) (b : Nat) (hb0 : 0 < b) (hb1 : b < 281474976710656) (w : World) (h : Lim w sv l) :
    CallsIn F n Tryz.prog 133 #[sv, .int .u64 (b : Int)] w fun e w' => (∃ v', e = .returned (.tuple #[v', .int .u64 ((val l % b : Nat) : Int)]) ∧ LimF w.heap.size w' v' (dig (val l / b))) ∧ Below w.heap.size w w' := by
  have h1 : 1 ≤ n := by omega
  have h' := h
  obtain ⟨a, cap, rfl, hlc, ⟨hcm, hcl, hcn⟩, hcs⟩ := h'
  clear hcn hcs
  obtain ⟨i0, hi, hz0, hz1, hz2⟩ := info_parts Tryz.infoU
  obtain ⟨W0, hW0⟩ : ∃ W0, (((w.alloc (.cells #[.int .u64 (b : Int)] 69)).alloc (.cells #[.slice none 0 0] 22)).alloc (.cells #[.int .u64 0] 69)) = W0 := ⟨_, rfl⟩
  have hs0 : W0.heap.size = w.heap.size + 1 + 1 + 1 := by rw [← hW0]; simp
  obtain ⟨w1, hrun, hown, hgrow⟩ := run_make_full (P := Tryz.prog) (w := W0) (w.heap.size + 1 + 1 + 1) 22 59 i0 (.int .u16 0) 1 Tryz.underlying22 hi hz0 hz1 .i64 .i64 l.length (by rw [hz2]; omega) (by unfold maxLen; omega) (by omega)
  rw [made_zero] at hown
  have bB := (((Boxed.new w 69 (.int .u64 (b : Int))).alloc (.cells #[.slice none 0 0] 22)).alloc (.cells #[.int .u64 0] 69))
  have bQ := (Boxed.new (w.alloc (.cells #[.int .u64 (b : Int)] 69)) 22 (.slice none 0 0)).alloc (.cells #[.int .u64 0] 69)
  have bR := Boxed.new ((w.alloc (.cells #[.int .u64 (b : Int)] 69)).alloc (.cells #[.slice none 0 0] 22)) 69 (.int .u64 0)
  rw [World.size_alloc] at bQ
  rw [World.size_alloc, World.size_alloc] at bR
  have hB0 : Below w.heap.size w W0 := by
    rw [← hW0]
    exact (((Below.refl _ w).alloc (Nat.le_refl _) _).alloc (by simp) _).alloc (by simp; omega) _
  rw [hW0] at bB bQ bR
  rw [hs0] at hown hrun
  rw [← hW0] at hrun
  have bB1 := bB.kept hgrow (by simp)
  have bQ1 := bQ.kept hgrow (by simp)
  have bR1 := bR.kept hgrow (by simp)
  have hB1 := hB0.grown hgrow (by omega) (fun k e => by cases e)
  have hs1 := hgrow.size
  rw [hs0] at hs1
  have cQ1 := bQ1.cell
  have fQ1 := bQ1.frozen
  have HS := Lib.hid hs0
  clear hs0 hW0 bB bQ bR hB0 hgrow
  refine callsIn_of_wp_marks Tryz.func133 rfl hf ?_ hro
  simp only [Tryz.ntmps133, List.size_toArray, List.length_cons, List.length_nil, Nat.reduceAdd, Nat.reduceSub, Array.replicate_succ, Array.replicate_zero, List.push_toArray, List.append_toArray, List.nil_append, List.cons_append]
  gi_wp2_with (gi_at_call 135; refine (down_in F (n - 1) hf2 hro _ _ _ _ rfl _).mono ?_; rintro e w' ⟨rfl, rfl⟩)
  have hs3 : w.heap.size + 1 + 1 + 1 < w1.heap.size := (hown.lt _ rfl).2
  have g2 := grownBy_setCell' w1 (w.heap.size + 1) (.slice (some ⟨w.heap.size + 1 + 1 + 1, 0, none⟩) l.length l.length)
  have bB2 := (bB1.kept g2 (by simp <;> omega)).alloc (.cells #[.slice a l.length cap] 22)
  have bQ2 := (bQ1.set (.slice (some ⟨w.heap.size + 1 + 1 + 1, 0, none⟩) l.length l.length)).alloc (.cells #[.slice a l.length cap] 22)
  have bR2 := (bR1.kept g2 (by simp <;> omega)).alloc (.cells #[.slice a l.length cap] 22)
  have ho2 := (hown.kept g2 (.inr (by simp [Value.ownBlock] <;> omega))).alloc (.cells #[.slice a l.length cap] 22)
  have hB2 := (hB1.setCell (p := ⟨w.heap.size + 1, 0, none⟩) (by simp) (.slice (some ⟨w.heap.size + 1 + 1 + 1, 0, none⟩) l.length l.length)).alloc (by simp [World.setCell]; omega) (.cells #[.slice a l.length cap] 22)
  have hsz : (w1.setCell ⟨w.heap.size + 1, 0, none⟩ (.slice (some ⟨w.heap.size + 1 + 1 + 1, 0, none⟩) l.length l.length)).heap.size = w1.heap.size := by simp [World.setCell]
  have bN := Boxed.new (w1.setCell ⟨w.heap.size + 1, 0, none⟩ (.slice (some ⟨w.heap.size + 1 + 1 + 1, 0, none⟩) l.length l.length)) 22 (.slice a l.length cap)
  rw [hsz] at bN
  obtain ⟨W2, hW2⟩ : ∃ W2, (w1.setCell ⟨w.heap.size + 1, 0, none⟩ (.slice (some ⟨w.heap.size + 1 + 1 + 1, 0, none⟩) l.length l.length)).alloc (.cells #[.slice a l.length cap] 22) = W2 := ⟨_, rfl⟩
  have hsz2 : W2.heap.size = w1.heap.size + 1 := by rw [← hW2, World.size_alloc, hsz]
  rw [hW2] at bB2 bQ2 bR2 ho2 hB2 bN ⊢
  clear hW2 bB1 bQ1 bR1 hB1 g2 hown hrun cQ1 fQ1 hsz
  obtain ⟨Bs, hBs⟩ : ∃ Bs, w1.heap.size = Bs := ⟨_, rfl⟩
  rw [hBs] at bN hs3 hsz2 ⊢
  clear hBs hs1
  refine wpIn_rangeFunc_ownG hro h1 (gf := 169) (lb := #[.pointer (some ⟨Bs, 0, none⟩)]) rfl hf3 (enters_of Tryz.func169 (by kernel_rfl) rfl)
    (down_stops F (n - 1) hf3 hro (by omega) Bs w.heap.size _ l W2 (by omega) (by omega) bN.cell w h (Nat.le_refl _) hB2) KpD.trans (KpD.putObj (by omega)) (Below.refl _ _) (fun _ => rfl)
    (fun pre W => DsI w.heap.size b l pre W ∧ Below w.heap.size w W)
    (fun _ _ _ => False)
    (OwnFrom.and (Own.from (dsI_own w.heap.size b l) _) (ownFrom_below (Nat.le_refl _) (by omega)))
    (fun _ _ _ _ _ hs _ _ => hs)
    ⟨⟨bB2, bQ2, bR2, ho2⟩, hB2⟩
    (fun x => { tmps := #[.slice a l.length cap, .int .u64 (b : Int), undef, .pointer (some ⟨w.heap.size, 0, none⟩), .pointer (some ⟨w.heap.size + 1, 0, none⟩), .pointer (some ⟨w.heap.size + 1 + 1, 0, none⟩), .int .i64 ((x.1 : Nat) : Int), .int .u16 ((l[x.1]?.getD 0 : Nat) : Int), .slice a l.length cap, .int .i64 l.length, .slice (some ⟨w.heap.size + 1 + 1 + 1, 0, none⟩) l.length l.length, .slice a l.length cap, .func (.func 169) #[] #[.pointer (some ⟨Bs, 0, none⟩)], .int .i64 ((x.1 : Nat) : Int), .int .u16 ((l[x.1]?.getD 0 : Nat) : Int), undef, undef, undef, undef, undef, undef, undef, undef, undef, undef, undef, undef, undef, undef, undef, undef, undef, undef], defers := [] }) ?assign ?body ?done ?stop
  case assign =>
    intro y x W K hK
    dsimp only [encs]
    gi_wp2
    exact hK
  case body =>
    rintro y pre x W ⟨⟨bB, bQ, bR, hrow⟩, hB⟩ _
    have hsn := ds_snoc l b pre x
    have hlen := ds_length l b pre
    have hr := ds_lt l b hb0 pre
    generalize ds l b pre = s at bR hrow hsn hlen hr
    obtain ⟨r, q⟩ := s
    simp only at bR hrow hlen hr hsn
    have cB := bB.cell
    have cQ := bQ.cell
    have cR := bR.cell
    have fR := bR.frozen
    have hx := x.2
    have hu2 : l[x.1]?.getD 0 < 65536 := hl.getD _
    obtain ⟨u, hu⟩ : ∃ u : Nat, u = l[x.1]?.getD 0 := ⟨_, rfl⟩
    rw [← hu] at hsn hu2 ⊢
    clear hu
    obtain ⟨m, hm⟩ : ∃ m : Nat, m = x.1 := ⟨_, rfl⟩
    have Hm := Lib.hid hm
    rw [← hm] at hx hsn ⊢
    clear hm
    have HSN := Lib.hid hsn
    clear hsn
    obtain ⟨t, ht⟩ : ∃ t : Nat, t = r * 65536 + u := ⟨_, rfl⟩
    have ht2 : t < 18446744073709551616 := by omega
    have e1 : bits .or .u64 ((r : Int) * 65536) (u : Int) = (t : Int) := by
      have := shl_or r u hu2
      rw [IntKind.wrap_u64, Int.emod_eq_of_lt (by omega) (by omega), Nat.mod_eq_of_lt (by omega)] at this
      rw [this, ht]
    have hzlt : t / b < 65536 := by
      rw [Nat.div_lt_iff_lt_mul hb0]
      have : (r + 1) * 65536 ≤ b * 65536 := Nat.mul_le_mul_right _ hr
      rw [Nat.mul_comm 65536 b]
      omega
    obtain ⟨z, hz⟩ : ∃ z : Nat, z = t / b := ⟨_, rfl⟩
    obtain ⟨r2, hr2⟩ : ∃ r2 : Nat, r2 = t % b := ⟨_, rfl⟩
    have e2 : (t : Int) / (b : Int) = (z : Int) := by rw [hz]; rfl
    have e3 : (t : Int) % (b : Int) = (r2 : Int) := by rw [hr2]; rfl
    rw [← hz] at hzlt
    have hsn := HSN.out
    rw [← ht, ← hz, ← hr2] at hsn
    have HSN2 := Lib.hid hsn
    clear hsn HSN ht hz hr2
    have hcell := hrow.cellAt m (by omega)
    have hfro := hrow.frozenAt m
    rw [cellsOf_get _ _ (by rw [hlen]; exact hx)] at hcell
    have hne1 : ¬ w.heap.size + 1 + 1 = w.heap.size := by omega
    have hmx : Tryz.prog.follows .mixedOrders = true := by kernel_rfl
    have e4 : IntKind.u16.wrap (z : Int) = (z : Int) := by rw [wrap_u16_nat, Nat.mod_eq_of_lt hzlt]
    have hXN := Lib.hid (ds_round (t := t) (x := x) (W2 := W2) (Bs := Bs) bB bQ bR hrow hB HSN2.out (by omega))
    clear hrow
    gi_wp2
    gi_region_with_o (fail)
    all_goals gi_wp2
    all_goals exact hXN.out
  case done =>
    rintro D ys W hD hS ⟨⟨bB, bQ, bR, hrow⟩, hB⟩ hK
    have hsn := ds_all hl hb0 hS
    have hlen := ds_length l b ys
    generalize ds l b ys = s at bR hrow hsn hlen
    obtain ⟨r, q⟩ := s
    simp only at bR hrow hlen hsn
    obtain ⟨rfl, hq, hv⟩ := hsn
    have cQ := bQ.cell
    have cR := bR.cell
    have fQ := bQ.frozen
    have fR := bR.frozen
    have hlim : Lim W (.slice (some ⟨w.heap.size + 1 + 1 + 1, 0, none⟩) l.length l.length) q := Lim.of_owns hrow (by omega)
    have hfr := Fr.of_owns hrow
    have HV := Lib.hid hv
    have hws := (lt_of_cell cR)
    simp only at hws
    have hmx : Tryz.prog.follows .mixedOrders = true := by kernel_rfl
    clear hv
    gi_wp2
    gi_region_with_o (gi_at_call 136; refine (trim_in F (n - 1) hf4 hf2 hf3 hro (by omega) _ q hq _ (by exact hlim)).mono ?_; rintro e w3 ⟨⟨v', rfl, hl3, hpt⟩, hb3⟩; obtain ⟨a', cap', rfl, _⟩ := id hl3; have cQ3 := (hb3.cell (p := ⟨w.heap.size + 1, 0, none⟩) (by simp; omega)).trans cQ; have fQ3 := (hb3.frozen (p := ⟨w.heap.size + 1, 0, none⟩) (by simp; omega)).trans fQ; have cR3 := (hb3.cell (p := ⟨w.heap.size + 1 + 1, 0, none⟩) (by simp; omega)).trans cR; have fR3 := (hb3.frozen (p := ⟨w.heap.size + 1 + 1, 0, none⟩) (by simp; omega)).trans fR)
    all_goals
      have hb4 : Below W.heap.size W w3 := ⟨hb3.os, hb3.tape, hb3.output, hb3.size, hb3.block⟩
      have bQ4 := (Boxed.below bQ hb4).set (.slice a' (dig (val q)).length cap')
      have bQ5 := bQ4.kept (grownBy_setCell' _ (w.heap.size + 1 + 1) (.int .u64 ((val l : Int) % (b : Int)))) (by simp)
      have bR4 := ((Boxed.below bR hb4).kept (grownBy_setCell' w3 (w.heap.size + 1) (.slice a' (dig (val q)).length cap')) (by simp <;> omega)).set (.int .u64 ((val l : Int) % (b : Int)))
      have hK4 := (hb4.block D (Array.getElem?_eq_some_iff.1 hK).1).trans hK
      have hK5 := ((KeepsOthers.setCell w3 ⟨w.heap.size + 1, 0, none⟩ (.slice a' (dig (val q)).length cap')).trans (KeepsOthers.setCell _ ⟨w.heap.size + 1 + 1, 0, none⟩ (.int .u64 ((val l : Int) % (b : Int))))).same D _ hK4 rfl
      have hB5 := ((hB.trans (hb4.mono hB.size)).setCell (p := ⟨w.heap.size + 1, 0, none⟩) (by simp) (.slice a' (dig (val q)).length cap')).setCell (p := ⟨w.heap.size + 1 + 1, 0, none⟩) (by simp; omega) (.int .u64 ((val l : Int) % (b : Int)))
      have hB6 := hB5.trans (belowK_b (w := w) (Nat.le_refl _) _ D _ (.deferred none) (by omega) hK5 rfl rfl)
      have q5 := cell_kept bQ5.cell (grownBy_putObj' _ D (.deferred none)) (fun r e => by cases e; exact ⟨_, hK5, rfl⟩)
      have r5 := cell_kept bR4.cell (grownBy_putObj' _ D (.deferred none)) (fun r e => by cases e; exact ⟨_, hK5, rfl⟩)
      gi_wp2
      refine ⟨by simp, .inl ⟨_, _, rfl, run_takeDeferred hK5, ?_⟩⟩
      refine ⟨.tuple #[.slice a' (dig (val q)).length cap', .int .u64 ((val l % b : Nat) : Int)], ?_, ⟨_, rfl, ?_⟩, hB6⟩
      · simp [results, Tryz.f133, go_sem, q5, r5]
      · have f1 : LimF w.heap.size w3 (.slice a' (dig (val q)).length cap') (dig (val q)) := ⟨hl3, ((hfr.mono (by omega)).below hb4).part hpt⟩
        have f2 := ((f1.kept (grownBy_setCell' w3 (w.heap.size + 1) (.slice a' (dig (val q)).length cap')) (fun r e => hpt.own r (by cases e; omega))).kept (grownBy_setCell' _ (w.heap.size + 1 + 1) (.int .u64 ((val l : Int) % (b : Int)))) (fun r e => hpt.own r (by cases e; omega))).kept (grownBy_putObj' _ D (.deferred none)) (fun r e => hpt.own r (by cases e; omega))
        rw [← HV.out]
        exact f2
  case stop =>
    rintro D c pre W _ _ h _
    exact h.elim
theorem divideShort_any (sv : Value) (l : List Nat) (hl : Lm l) (hll : l.length ≤ 1048000) (b : Nat) (hb0 : 0 < b) (hb1 : b < 281474976710656) (w : World) (h : Lim w sv l) :
  Calls Tryz.prog 133 #[sv, .int .u64 (b : Int)] w fun e w' => (∃ v', e = .returned (.tuple #[v', .int .u64 ((val l % b : Nat) : Int)]) ∧ LimF w.heap.size w' v' (dig (val l / b))) ∧ Below w.heap.size w w' :=
 callsIn_wide.1 (divideShort_in Fence.wide 4 trivial trivial trivial trivial rfl (Nat.le_refl _) sv l hl hll b hb0 hb1 w h)
end Go.Proofs.YtmbcnfogjncdaaaGreat
namespace Go.Proofs.YtmbcnfogjncdaaaGreat
open Go.RowKit Wh
def Bnd : Nat := 65536
theorem Bnd_eq : Bnd = 65536 := rfl
def Same (w w' : World) : Prop := w = w'
def NormRel (t0 : Nat) (f t : Value) : Prop := ∃ k : Nat, (1 ≤ k ∧ ∃ j, k = 2 ^ j) ∧ t0 * k < 65536 ∧ f = .int .i64 (k : Int) ∧ t = .int .u16 ((t0 * k : Nat) : Int)
theorem normalizer_any (sv : Value) (l : List Nat) (hl : Lm l) (hne : l ≠ []) (h0 : l[l.length - 1]?.getD 0 ≠ 0) (w : World) (h : Lim w sv l) :
    Calls Tryz.prog 165 #[sv] w fun e w' => (∃ k : Nat, e = .returned (.int .i64 (k : Int)) ∧ (1 ≤ k ∧ ∃ j, k = 2 ^ j) ∧ k ≤ 65535 ∧ 32768 ≤ l[l.length - 1]?.getD 0 * k ∧ l[l.length - 1]?.getD 0 * k < 65536) ∧ w = w' := by
  have h' := h
  obtain ⟨a, cap, rfl, hlc, ⟨hcm, hcl, hcn⟩, hcs⟩ := h'
  obtain ⟨b, off, rfl, hb, hc⟩ := h.block hne
  have hpos : 0 < l.length := by cases l with | nil => exact absurd rfl hne | cons => simp
  have hcell := hc (l.length - 1) (by omega)
  have hu := hl.getD (l.length - 1)
  generalize l[l.length - 1]?.getD 0 = u at *
  clear hc hcs hcn h
  go_enter Tryz.func165, Tryz.ntmps165
  go_wp2
  go_loopw [3, 4] (fun f t wr => NormRel u f t ∧ Same w wr) (fun _ t _ => Bnd - (intOf t).toNat)
  case atStart => exact ⟨⟨1, ⟨by omega, 0, rfl⟩, by omega, rfl, by simp⟩, rfl⟩
  case round =>
    obtain ⟨⟨k, ⟨k1, j, hj⟩, k2, rfl, rfl⟩, hs⟩ := hrel
    have HJ := Lib.hid hj
    clear hj
    obtain rfl : w = wr := hs
    have hk : k ≤ u * k := Nat.le_mul_of_pos_left _ (by omega)
    obtain ⟨t, ht⟩ : ∃ t, t = u * k := ⟨_, rfl⟩
    have HT := Lib.hid ht
    rw [← ht] at k2 hk ⊢
    clear ht
    have HLT : Hid (t < 32768) ∨ Hid (¬ t < 32768) := Nat.lt_or_ge t 32768 |>.imp id Nat.not_lt_of_ge
    rcases HLT with HL | HL
    · have hd : decide ((t : Int) < 32768) = true := by have := HL.out; simp; omega
      have m1 : (t : Int) * 2 ≤ 65535 := by have := HL.out; omega
      have m2 : (k : Int) * 2 ≤ 65535 := by have := HL.out; omega
      go_wp2
      have hlt := HL.out
      refine ⟨⟨⟨k * 2, ⟨by omega, j + 1, by rw [HJ.out, Nat.pow_succ]⟩, by rw [← Nat.mul_assoc, ← HT.out]; omega, by go_num, by rw [← Nat.mul_assoc, ← HT.out]; go_num⟩, rfl⟩, by have := Bnd_eq; simp [intOf]; omega⟩
    · have hd : decide ((t : Int) < 32768) = false := by have := HL.out; simp; omega
      go_wp2
      have hlt := HL.out
      go_ret
      exact ⟨⟨k, rfl, ⟨k1, j, HJ.out⟩, by omega, by rw [← HT.out]; omega, by rw [← HT.out]; exact k2⟩, rfl⟩
def splice (R : List Nat) (i : Nat) (Q : List Nat) : List Nat := R.take i ++ Q ++ R.drop (i + Q.length)
theorem splice_length {R Q : List Nat} {i : Nat} (h : i + Q.length ≤ R.length) : (splice R i Q).length = R.length := by simp [splice]; omega
theorem splice_Lm {R Q : List Nat} {i : Nat} (hR : Lm R) (hQ : Lm Q) : Lm (splice R i Q) := ((hR.take _).append hQ).append (hR.drop _)
theorem splice_nil (R : List Nat) (i : Nat) : splice R i [] = R := by simp [splice]
theorem splice_get {R Q : List Nat} {i : Nat} (h : i + Q.length < R.length) : (splice R i Q)[i + Q.length]?.getD 0 = R[i + Q.length]?.getD 0 := by
 unfold splice
 rw [List.getElem?_append_right (by simp; omega)]
 simp
 congr 2
 omega
theorem splice_set {R Q : List Nat} {i x : Nat} (h : i + Q.length < R.length) : (splice R i Q).set (i + Q.length) x = splice R i (Q ++ [x]) := by
 unfold splice
 rw [List.set_append_right _ _ (by simp; omega)]
 have e : i + Q.length - (R.take i ++ Q).length = 0 := by simp; omega
 rw [e, List.drop_eq_getElem_cons h, List.set_cons_zero]
 simp [List.length_append, Nat.add_assoc]
theorem add_step {c p x f P V : Int} {l : List Nat} (h : (val l : Int) + ((65536 ^ l.length : Nat) : Int) * c = P + f * V) :
  (val (l ++ [((c + (p + x * f)) % 65536).toNat]) : Int) + ((65536 ^ (l.length + 1) : Nat) : Int) * ((c + (p + x * f)) / 65536) = (P + ((65536 ^ l.length : Nat) : Int) * p) + f * (V + ((65536 ^ l.length : Nat) : Int) * x) := by
 rw [put_step, Int.mul_add, ← Int.add_assoc, h, Int.mul_add, Int.mul_add, ← Int.mul_assoc, Int.mul_comm f (_ * x), Int.mul_assoc]
 omega
def AddRel (G N i n : Nat) (R lb : List Nat) (f : Int) (base : Nat) (w : World) (c k : Value) (wr : World) : Prop :=
 ∃ (Q : List Nat) (ci : Int), Q.length ≤ n ∧ k = .int .i64 (Q.length : Int) ∧ c = .int .i64 ci ∧ Lm Q ∧ -65535 ≤ ci ∧ ci ≤ 65535 ∧
  (val Q : Int) + ((65536 ^ Q.length : Nat) : Int) * ci = (val ((R.drop i).take Q.length) : Int) + f * (val (lb.take Q.length) : Int) ∧
  wr.ownsRow base 59 1 (.slice (some ⟨G, 0, none⟩) N N) N (cellsOf (splice R i Q)) ∧ w.grownBy wr (some G)
theorem val_take_getD (a : List Nat) (k : Nat) : val (a.take (k + 1)) = val (a.take k) + 65536 ^ k * (a[k]?.getD 0) := by
  by_cases hk : k < a.length
  · exact val_take_succ hk
  · rw [List.take_of_length_le (by omega), List.take_of_length_le (by omega), List.getElem?_eq_none (by omega)]
    simp
theorem add_rel {G N i n base : Nat} {R lb Q : List Nat} {f ci s : Int} {w wr : World} (hR : R.length = N) (hin : i + n ≤ N) (hk : Q.length < n) (hqm : Lm Q)
    (hv : (val Q : Int) + ((65536 ^ Q.length : Nat) : Int) * ci = (val ((R.drop i).take Q.length) : Int) + f * (val (lb.take Q.length) : Int))
    (hrow : wr.ownsRow base 59 1 (.slice (some ⟨G, 0, none⟩) N N) N (cellsOf (splice R i Q))) (hg : w.grownBy wr (some G))
    (hs : s = ci + (((R[i + Q.length]?.getD 0 : Nat) : Int) + ((lb[Q.length]?.getD 0 : Nat) : Int) * f)) (s1 : -65535 ≤ s / 65536) (s2 : s / 65536 ≤ 65535) :
    AddRel G N i n R lb f base w (.int .i64 (s / 65536)) (.int .i64 ((Q.length : Int) + 1)) (wr.setCell ⟨G, i + Q.length, none⟩ (.int .u16 (IntKind.u16.wrap s))) := by
  obtain ⟨r1, r2⟩ := hrow.stored (i + Q.length) (.int .u16 (IntKind.u16.wrap s))
  have ew : IntKind.u16.wrap s = (((s % 65536).toNat : Nat) : Int) := by rw [IntKind.wrap_u16, Int.toNat_of_nonneg (by omega)]
  refine ⟨Q ++ [(s % 65536).toNat], s / 65536, by simp; omega, by simp, rfl, hqm.append (.cons (by omega) .nil), s1, s2, ?_, ?_, hg.trans r2⟩
  · have e := add_step (p := ((R[i + Q.length]?.getD 0 : Nat) : Int)) (x := ((lb[Q.length]?.getD 0 : Nat) : Int)) hv
    rw [← hs] at e
    simp only [List.length_append, List.length_cons, List.length_nil, Nat.zero_add]
    rw [e, val_take_getD, val_take_getD, List.getElem?_drop]
    simp only [Int.natCast_add, Int.natCast_mul]
  · rw [ew, cellsOf_set, splice_set (by omega)] at r1
    rw [ew]
    exact r1
theorem addTimes_any (G N i n c0 base : Nat) (R : List Nat) (sb : Value) (lb : List Nat) (hR : Lm R) (hlb : Lm lb) (f : Int) (f1 : -65535 ≤ f) (f2 : f ≤ 65535) (hin : i + n ≤ N) (_hN : N ≤ 1048576) (hc0 : n ≤ c0) (hc1 : c0 ≤ 1048576) (w : World)
    (hrow : w.ownsRow base 59 1 (.slice (some ⟨G, 0, none⟩) N N) N (cellsOf R)) (h : Lim w sb lb) (hsep : sb.ownBlock ≠ some G) :
    Calls Tryz.prog 208 #[.slice (some ⟨G, i, none⟩) n c0, sb, .int .i64 f] w fun e w' =>
      (∃ (Q : List Nat) (ci : Int), Q.length = n ∧ Lm Q ∧ e = .returned (.int .i64 ci) ∧ -65535 ≤ ci ∧ ci ≤ 65535 ∧ (val Q : Int) + ((65536 ^ n : Nat) : Int) * ci = (val ((R.drop i).take n) : Int) + f * (val (lb.take n) : Int) ∧
        w'.ownsRow base 59 1 (.slice (some ⟨G, 0, none⟩) N N) N (cellsOf (splice R i Q))) ∧ w.grownBy w' (some G) := by
  have hlen : R.length = N := by have := hrow.1; simpa [cellsOf] using this
  have h' := h
  obtain ⟨a, cap, rfl, hlc, ⟨hcm, hcl, hcn⟩, hcs⟩ := h'
  have cb : ∀ k, k < lb.length → ∃ bb bo, a = some ⟨bb, bo, none⟩ ∧ bb ≠ G ∧ w.cell? ⟨bb, bo + k, none⟩ = some (.int .u16 ((lb[k]?.getD 0 : Nat) : Int)) := fun k hk => by
    obtain ⟨bb, bo, e, e1, e2⟩ := h.block (by intro e; rw [e] at hk; simp at hk)
    refine ⟨bb, bo, e, ?_, e2 k hk⟩
    rintro rfl
    rw [e] at hsep
    simp [Value.ownBlock] at hsep
  have CB := Lib.hid cb
  have HLEN := Lib.hid hlen
  clear cb hcs hcn h hsep hlen
  go_enter Tryz.func208, Tryz.ntmps208
  go_wp2
  go_loopw [7, 11] (fun c k wr => AddRel G N i n R lb f base w c k wr) (fun _ k _ => n - (intOf k).toNat)
  case atStart => exact ⟨[], 0, by simp, rfl, rfl, .nil, by omega, by omega, by simp, by rw [splice_nil]; exact hrow, ⟨rfl, rfl, rfl, Nat.le_refl _, fun _ _ _ => rfl⟩⟩
  case round =>
    obtain ⟨Q, ci, hq, rfl, rfl, hqm, c1, c2, hv, hrow', hg⟩ := hrel
    have hlen := HLEN.out
    obtain ⟨k, hk⟩ : ∃ k, k = Q.length := ⟨_, rfl⟩
    have HK := Lib.hid hk
    have HV := Lib.hid hv
    clear hv
    by_cases hkn : k < n
    · have hcell := hrow'.cellAt (i + Q.length) (by omega)
      have hfro := hrow'.frozenAt (i + Q.length)
      rw [cellsOf_get _ _ (by rw [splice_length (by omega)]; omega), splice_get (by omega)] at hcell
      have hu := hR.getD (i + Q.length)
      rw [← hk] at hcell hfro hu hq ⊢
      obtain ⟨u, hu'⟩ : ∃ u : Nat, u = R[i + k]?.getD 0 := ⟨_, rfl⟩
      rw [← hu'] at hcell hu
      have HU := Lib.hid hu'
      clear hu' hlen
      have HR := Lib.hid hrow'
      clear hrow'
      have g1 : k < lb.length ∨ ¬ k < lb.length := Nat.lt_or_ge k lb.length |>.imp id Nat.not_lt_of_ge
      clear hk
      rcases g1 with g1 | g1
      · obtain ⟨bb, bo, rfl, hbb, hcb⟩ := CB.out k g1
        have hcb' := hg.cell hcb (by simp; exact hbb)
        have hu2 := hlb.getD k
        obtain ⟨v, hv'⟩ : ∃ v : Nat, v = lb[k]?.getD 0 := ⟨_, rfl⟩
        rw [← hv'] at hcb' hu2
        have HW := Lib.hid hv'
        clear hv' hcb
        obtain ⟨m3, m4⟩ := mul_bound (x := (v : Int)) (M := 65535) (by omega) (by omega) (by omega) f1 f2
        go_wp2
        refine ⟨?_, by simp [intOf]; omega⟩
        have hkk := HK.out
        subst hkk
        exact add_rel HLEN.out hin hkn hqm HV.out HR.out hg (by rw [← HU.out, ← HW.out]; omega) (by omega) (by omega)
      · go_wp2
        refine ⟨?_, by simp [intOf]; omega⟩
        have hkk := HK.out
        subst hkk
        exact add_rel HLEN.out hin hkn hqm HV.out HR.out hg (by rw [← HU.out, getD_out (by omega)]; omega) (by omega) (by omega)
    · have e : Q.length = n := by omega
      have HE := Lib.hid e
      rw [← hk] at hq ⊢
      clear hlen e hk
      go_wp2
      go_ret
      have hv := HV.out
      rw [HE.out] at hv
      exact ⟨⟨Q, ci, HE.out, hqm, rfl, c1, c2, hv, hrow'⟩, hg⟩
end Go.Proofs.YtmbcnfogjncdaaaGreat
