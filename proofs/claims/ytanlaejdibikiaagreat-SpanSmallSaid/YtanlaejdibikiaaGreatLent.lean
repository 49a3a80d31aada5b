/-
Slices of spans that are lent: their own memory, marks behind.
-/
import Derived.Lib.MinMax
import Derived.Laws.OwnMore
import Derived.Laws.AppendOwnNone
import Derived.Test.YtanlaejdibikiaaGreatGather
import Derived.Test.YtanlaejdibikiaaGreatSame
namespace Go.Proofs.YtanlaejdibikiaaGreat
open Go.RowKit Go.Shelf Sp

def mk (k i : Int) : Int := 1000003 * (k + 7) + i

set_option maxHeartbeats 1000000 in
theorem mark_any (k i : Int) (hk : 0 ≤ k ∧ k ≤ 2) (hi : 0 ≤ i ∧ i ≤ 1000) (w : World) : Calls Tryz.prog 54 #[.int .i64 k, .int .i64 i] w fun e w' => e = .returned (.int .i64 (mk k i)) ∧ w = w' := by
  have q1 : IntKind.i64.wrap (k + 7) = k + 7 := IntWalk.i64_in _ (by omega)
  have q2 : IntKind.i64.wrap (1000003 * (k + 7)) = 1000003 * (k + 7) := IntWalk.i64_in _ (by omega)
  have q3 : IntKind.i64.wrap (1000003 * (k + 7) + i) = mk k i := IntWalk.i64_in _ (by omega)
  go_enter Tryz.func54, Tryz.ntmps54
  go_wp2
  go_ret
  exact ⟨by first | rfl | (unfold mk; rfl), rfl⟩

set_option maxHeartbeats 1000000 in
theorem markSpan_any (k i : Int) (hk : 0 ≤ k ∧ k ≤ 2) (hi : 0 ≤ i ∧ i ≤ 1000) (w : World) : Calls Tryz.prog 37 #[.int .i64 k, .int .i64 i] w (Says (.agg #[.int .i64 (mk k i), .int .i64 0]) w) := by
  have HM := Lib.hid (fun W => mark_any k i hk hi W)
  have HX := Lib.hid ((Bx.new 31 w (.int .i64 0) (.int .i64 0)).put (.int .i64 (mk k i)) (.int .i64 0))
  have HB := Lib.hid ((((Below.refl w.heap.size w).alloc (Nat.le_refl _) (.cells #[.int .i64 0, .int .i64 0] 31)).setCell (p := ⟨w.heap.size, 0, none⟩) (Nat.le_refl _) (.int .i64 (mk k i))).setCell (p := ⟨w.heap.size, 1, none⟩) (Nat.le_refl _) (.int .i64 0))
  clear hk hi
  go_enter Tryz.func37, Tryz.ntmps37
  go_wp2_with fail
  refine (HM.out _).mono ?_
  rintro e w1 ⟨rfl, rfl⟩
  go_wp2
  obtain ⟨p1, p2⟩ := HX.out.cells
  refine bodyPost_ret (v := .agg #[.int .i64 (mk k i), .int .i64 0]) (by simp [results, Tryz.f37, go_sem]) rfl ?_
  exact ⟨rfl, (Below.refl _ _).alloc (Nat.le_refl _) _⟩

/-- The marks behind. -/
def mks (n : Nat) : L := (List.range n).map fun (i : Nat) => (mk 1 (i : Int), (0 : Int))
theorem mks_succ (n : Nat) : mks (n + 1) = mks n ++ [(mk 1 n, 0)] := by simp [mks, List.range_succ]
theorem mks_length (n : Nat) : (mks n).length = n := by simp [mks]
theorem mks_get {n j : Nat} (h : j < n) : (mks n)[j]?.getD (0, 0) = (mk 1 j, 0) := by simp [mks, h]

/-- What is lent: the slice's own row, the marks behind it. -/
def Lent (base : Nat) (W : World) (v : Value) (l : L) : Prop := ∃ b cap, v = .slice (some ⟨b, 0, none⟩) l.length cap ∧ base ≤ b ∧ l.length + 12 ≤ cap ∧
  W.ownsRow base 31 2 (.slice (some ⟨b, 0, none⟩) (l.length + 12) cap) (l.length + 12) (cellsS (l ++ mks 12))

theorem cells_spn {W : World} {b off : Nat} {l : L} (h : ∀ j, j < l.length → W.cell? ⟨b, off + j * 2, none⟩ = some (.int .i64 (l[j]?.getD (0, 0)).1) ∧ W.cell? ⟨b, off + j * 2 + 1, none⟩ = some (.int .i64 (l[j]?.getD (0, 0)).2)) :
    ∀ j u, (cellsS l)[j]? = some u → W.cell? ((⟨b, off, none⟩ : Addr).add j) = some u := by
  intro j u hu
  have hj : j < l.length * 2 := by rw [← cellsS_length]; exact (List.getElem?_eq_some_iff.1 hu).1
  rw [add_eq]
  obtain ⟨q, hq⟩ : ∃ q, q = j / 2 := ⟨_, rfl⟩
  obtain ⟨c1, c2⟩ := h q (by omega)
  obtain ⟨g1, g2⟩ := cellsS_get l q (by omega)
  by_cases h2 : j % 2 = 0
  · obtain rfl : j = q * 2 := by omega
    rw [g1] at hu; rw [c1]; exact hu
  · obtain rfl : j = q * 2 + 1 := by omega
    rw [g2] at hu; rw [← Nat.add_assoc, c2]; exact hu

theorem cellsS_one (l : L) : ∀ u ∈ cellsS l, u.oneCell' = true := by
  intro u hu
  simp only [cellsS, List.mem_flatMap] at hu
  obtain ⟨s, _, hs⟩ := hu
  simp at hs
  rcases hs with rfl | rfl <;> simp [Value.oneCell']

/-- append of a slice of spans, nil or not. -/
theorem append_spn {W : World} {ops : Array Oper} {rest : List Oper} {o : Oper} {ac : Act} {Q : Exit → Act → World → Prop} (hgd : o.guard = none) (s x : Operand)
    (ho : o.op = .call { callee := .builtin .append, args := #[s, x], argTypes := #[22, 22] }) (base : Nat) (v : Value) (R : L) (n : Nat) (hn : n = R.length) (hs : ac.eval s = v) (hown : W.ownsRow base 31 2 v n (cellsS R))
    (sv : Value) (l : L) (hx : ac.eval x = sv) (hl : Spn W sv l) (hlen : R.length + l.length ≤ 100000) (hbase : base ≤ W.heap.size)
    (h : ∀ v' w', w'.ownsRow base 31 2 v' (R ++ l).length (cellsS (R ++ l)) → W.grownBy w' v.ownBlock → wpList Tryz.prog ops Q rest (ac.put o.dst v') w') : wpList Tryz.prog ops Q (o :: rest) ac W := by
  obtain ⟨i0, hi, hz0, hz1, hz2⟩ := info_parts Tryz.infoS
  subst hn
  have key : ∀ (ad : Addr) (cap : Nat), ac.eval x = .slice (some ad) l.length cap → (∀ j u, (cellsS l)[j]? = some u → W.cell? (ad.add j) = some u) → wpList Tryz.prog ops Q (o :: rest) ac W := fun ad cap hx hc =>
    wpList_append_own W hgd s x 22 ho base 31 i0 (.agg #[.int .i64 0, .int .i64 0]) 2 16 Tryz.underlying22 hi hz0 hz1 hz2 rfl (by decide) v _ _ hs hown ad l.length cap (cellsS l) hx (cellsS_length l) hc (cellsS_one l) (by unfold maxLen; omega) (by omega) hbase
      (fun v' w' h2 h3 _ => h v' w' (by rw [List.length_append, cellsS_append]; exact h2) h3)
  obtain ⟨a, cap, rfl, hlc, ⟨hcm, hcl, hcn⟩, hcs⟩ := hl
  rcases hcs with rfl | ⟨b, off, rfl, hc⟩
  · cases a with
    | none =>
      obtain rfl := hcn rfl
      exact wpList_append_own_none hgd s x 22 ho base 31 i0 2 Tryz.underlying22 hi v _ _ hs hown hx (h v W (by rw [List.append_nil]; exact hown) ⟨rfl, rfl, rfl, Nat.le_refl _, fun _ _ _ => rfl⟩)
    | some ad => exact key ad cap hx (fun j u hu => by simp [cellsS] at hu)
  · exact key _ cap hx (cells_spn hc)

set_option maxRecDepth 100000 in
set_option maxHeartbeats 8000000 in
theorem LentSpans_any (v : Value) (l : L) (hl : l.length ≤ 1000) (w : World) (h : Spn w v l) : Calls Tryz.prog 13 #[v] w fun e w' => (∃ v', e = .returned v' ∧ Lent w.heap.size w' v' l) ∧ Below w.heap.size w w' := by
  have h' := h
  obtain ⟨a, cap, rfl, hlc, ⟨hcm, hcl, hcn⟩, hcs⟩ := h'
  clear hcs hcn
  obtain ⟨i0, hi, hz0, hz1, hz2⟩ := info_parts Tryz.infoS
  have HS := Lib.hid h
  clear h
  have HM := Lib.hid (fun (k : Nat) (hk : k < 12) W => markSpan_any 1 k (by omega) (by omega) W)
  go_enter Tryz.func13, Tryz.ntmps13
  go_wp2_with (first
    | (at_make; refine wpList_make_own _ rfl _ _ 22 rfl w.heap.size 31 i0 (.agg #[.int .i64 0, .int .i64 0]) 2 Tryz.underlying22 hi hz0 hz1 _ _ _ (l.length + 12) rfl rfl (by omega) (by rw [hz2]; omega) (by unfold maxLen; omega) (Nat.le_refl _) ?_; intro w1 hown hgrow; have hB1 := (Below.refl w.heap.size w).grown hgrow (Nat.le_refl _) (fun k e => by cases e); have hL1 := HS.out.below hB1 (Nat.le_refl _))
    | (at_builtin; refine append_spn rfl _ _ rfl w.heap.size _ [] 0 rfl rfl hown _ l rfl hL1 (by simp; omega) hB1.size ?_; intro v2 w2 hown2 hgrow2))
  have HB := Lib.hid (hB1.grown hgrow2 hB1.size (fun k e => (hown.lt k e).1))
  have HO := Lib.hid (show w2.ownsRow w.heap.size 31 2 v2 (l ++ mks 0).length (cellsS (l ++ mks 0)) from by rw [show l ++ mks 0 = [] ++ l from by simp [mks]]; exact hown2)
  clear hown2 hown hgrow hgrow2 hB1 hL1
  go_loopw [3, 4] (fun lk i wr => ∃ d : Nat, d ≤ 12 ∧ i = .int .i64 d ∧ Hid (wr.ownsRow w.heap.size 31 2 lk (l ++ mks d).length (cellsS (l ++ mks d))) ∧ Below w.heap.size w wr) (fun _ i _ => 12 - (intOf i).toNat)
  case atStart => exact ⟨0, by omega, rfl, HO, HB.out⟩
  case round =>
    clear HO HB
    obtain ⟨d, hd, rfl, HO, hb⟩ := hrel
    by_cases hlt : d < 12
    · have d9 : (d : Int) < 12 := by omega
      have HB := Lib.hid hb
      clear hb
      go_wp2_with fail
      refine (HM.out d hlt _).mono ?_
      rintro e w3 ⟨rfl, hb3⟩
      have HB3 := Lib.hid (HB.out.trans (hb3.mono HB.out.size))
      have HO3 := Lib.hid (HO.out.kept (grown_of_below hb3) (Classical.em _))
      clear hb3 HO HB
      have hsz := HB3.out.size
      have hlm : (l ++ mks d).length = l.length + d := by rw [List.length_append, mks_length]
      go_wp2_with (at_builtin; refine wpList_append_own _ rfl _ _ 22 rfl w.heap.size 31 i0 (.agg #[.int .i64 0, .int .i64 0]) 2 16 Tryz.underlying22 hi hz0 hz1 hz2 rfl (by decide) _ _ _ rfl (HO3.out.alloc _) ⟨w3.heap.size, 0, none⟩ 1 1 [.int .i64 (mk 1 d), .int .i64 0] rfl rfl (cell_two_new _ _ _ _) (by simp [Value.oneCell']) (by unfold maxLen; omega) (by omega) (by simp; omega) ?_; intro v' w4 hown' hgrow _)
      have HZ := Lib.hid ((HB3.out.alloc HB3.out.size (.cells #[.int .i64 (mk 1 d), .int .i64 0] 31)).grown hgrow (by simp; omega) (fun k e => (HO3.out.lt k e).1))
      have HO2 : Hid (w4.ownsRow w.heap.size 31 2 v' (l ++ mks (d + 1)).length (cellsS (l ++ mks (d + 1)))) := Lib.hid (by rw [mks_succ, ← List.append_assoc, cellsS_append, List.length_append]; exact hown')
      clear hown' hgrow
      go_wp2
      go_roundw
      case rel => exact ⟨d + 1, by omega, by go_num, HO2, HZ.out⟩
      case measure => simp [intOf]; omega
    · obtain rfl : d = 12 := by omega
      have HB := Lib.hid hb
      clear hb
      rw [show (l ++ mks 12).length = l.length + 12 from by rw [List.length_append, mks_length]] at HO
      obtain ⟨B, cap', rfl, hBw, hcc⟩ : ∃ B cap, u3 = Value.slice (some ⟨B, 0, none⟩) (l.length + 12) cap ∧ w.heap.size ≤ B ∧ l.length + 12 ≤ cap := by
        rcases HO.out.2 with ⟨_, hh⟩ | ⟨B, cap, cur, rfl, hB, _, hc, _⟩
        · omega
        · exact ⟨B, cap, rfl, hB, hc⟩
      have p1 : (0 : Int) ≤ (l.length : Int) := by omega
      have p2 : (l.length : Int) ≤ (cap' : Int) := by omega
      have p3 : l.length ≤ cap' := by omega
      go_wp2
      go_ret
      exact ⟨⟨_, rfl, B, cap', rfl, hBw, hcc, HO.out⟩, HB.out⟩

end Go.Proofs.YtanlaejdibikiaaGreat
