/- A part of the proofs about fractions. -/
import Derived.Deep.RegionHeld
import Derived.Laws.CopyRow
import Derived.RangeFuncCalls
import Derived.Test.YtmbcnfogjncdaaaGreatQFl5
namespace Go.Proofs.YtmbcnfogjncdaaaGreat
open Go.RowKit Go.Shelf Wh
attribute [local go_sem] Oper.semAt_some
theorem make_in {F : Fence} {n : Nat} {P : Program} (w : World) {ops : Array Oper} {rest : List Oper} {o : Oper} {a : Act} {Q : Exit → Act → World → Prop}
    (hg : o.guard = none) (l c : Operand) (t : TypeId) (hop : o.op = Op.makeSlice t l c) (base : Nat) (e : TypeId) (i : TypeInfo) (z : Value) (h1 : P.underlying t = some (.slice e)) (h2 : P.info? e = some i) (h3 : i.zero = some z) (h4 : i.size = 1)
    (m : Nat) (C : Int) (hl : a.eval l = .int .i64 C) (hc : a.eval c = .int .i64 C) (hC : C = (m : Int)) (b2 : i.bytes * m ≤ 281474976710656) (b3 : m ≤ maxLen) (b4 : base ≤ w.heap.size)
    (hK : ∀ w', w'.ownsRow base e 1 (.slice (some ⟨w.heap.size, 0, none⟩) m m) m (madeCells z.cells (m * 1)).toList → w.grownBy w' none → wpListIn F n P ops Q rest (a.put o.dst (.slice (some ⟨w.heap.size, 0, none⟩) m m)) w') :
    wpListIn F n P ops Q (o :: rest) a w := by
  subst hC
  refine wpListIn_plain hg fun K hK' => ?_
  obtain ⟨w', hrun, r1, r2⟩ := run_make_full (P := P) (w := w) base t e i z 1 h1 h2 h3 h4 .i64 .i64 m b2 b3 b4
  unfold Oper.wpIn
  refine ⟨?_, ?_⟩
  · simp [Oper.about, hop]
  · rw [Oper.semAt_plain F _ _ (by rw [hop]; intro c hc'; cases hc')]
    simp [execOp, hop, hl, hc, hrun, Result.andThen]
    exact hK' _ _ (hK w' r1 r2)
theorem scale_any (sv : Value) (l : List Nat) (hl : Lm l) (hll : l.length ≤ 1048000) (f : Nat) (hf : f ≤ 35184372088832) (w : World) (h : Lim w sv l) :
  Calls Tryz.prog 131 #[sv, .slice none 0 0, .int .i64 (f : Int), .int .i64 0] w fun e w' => (∃ v', e = .returned v' ∧ LimF w.heap.size w' v' (dig (val l * f))) ∧ Below w.heap.size w w' := by
 have e : (val l : Int) * (f : Int) + (val [] : Int) * 0 = ((val l * f : Nat) : Int) := by rw [Int.natCast_mul]; simp
 have := combine_any sv (.slice none 0 0) l [] (f : Int) 0 hl .nil hll (by simp) (by omega) (by omega) (by omega) (by omega) (by rw [e]; omega) w h (Lim.nil w)
 rw [e, Int.toNat_natCast] at this
 exact this
theorem LimF.some {B : Nat} {W : World} {v : Value} {l : List Nat} (h : LimF B W v l) (hl : l ≠ []) : ∃ g cap cur T, v = .slice (some ⟨g, 0, none⟩) l.length cap ∧ B ≤ g ∧ W.heap[g]? = some (.cells cur T (0, 0)) ∧ cur.size = cap := by
  obtain ⟨⟨a, cap, rfl, _, _, _⟩, h2⟩ := h
  rcases h2 with h2 | ⟨g, n, cap', cur, T, e, h3, h4, h5⟩
  · injection h2 with _ e2 _
    exact absurd (List.eq_nil_of_length_eq_zero e2) hl
  · cases e
    exact ⟨g, cap, cur, T, rfl, h3, h4, h5⟩
theorem copy_row {w : World} {base G N ga capa : Nat} {l : List Nat} (hrow : w.ownsRow base 59 1 (.slice (some ⟨G, 0, none⟩) N N) N (cellsOf (List.replicate N 0))) (h : Lim w (.slice (some ⟨ga, 0, none⟩) l.length capa) l) (hl : l ≠ []) (hN : l.length ≤ N) :
    ∃ w', (Builtin.copy_ #[22, 22] 3 #[.slice (some ⟨G, 0, none⟩) N N, .slice (some ⟨ga, 0, none⟩) l.length capa]).run Tryz.prog w = .ok (goInt l.length) w' ∧
      w'.ownsRow base 59 1 (.slice (some ⟨G, 0, none⟩) N N) N (cellsOf (l ++ List.replicate (N - l.length) 0)) ∧ w.grownBy w' (some G) := by
  obtain ⟨hlen, h2⟩ := hrow
  rcases h2 with ⟨h2, _⟩ | ⟨g, cap, cur, e, hb, hg, hc1, hc2, hc3, ht⟩
  · cases h2
  · cases e
    obtain ⟨_, _, e, _, _, h3⟩ := h
    cases e
    have hcells : ∀ j u, (cellsOf l)[j]? = some u → w.cell? ((⟨ga, 0, none⟩ : Addr).add j) = some u := fun j u hu => by
      have hj : j < l.length := by have := (List.getElem?_eq_some_iff.1 hu).1; simpa [cellsOf] using this
      rcases h3 with h3 | ⟨b, off, e, hc⟩
      · exact absurd h3 hl
      · cases e
        rw [← hu, cellsOf_get l j hj, add_eq]
        exact hc j hj
    have h1c : ∀ u ∈ cellsOf l, u.oneCell' = true := fun u hu => by
      obtain ⟨x, _, rfl⟩ := List.mem_map.1 hu
      rfl
    have hcl : (cellsOf l).length = l.length := by simp [cellsOf]
    rw [Nat.mul_one] at hc3
    have htl : cur.toList = cellsOf (List.replicate N 0) := by rw [← ht, List.take_of_length_le (by simp [hc3])]
    have hrun := run_copy_row (P := Tryz.prog) w 22 22 3 59 G 0 N N ⟨ga, 0, none⟩ l.length capa cur 59 (cellsOf l) Tryz.underlying22 (by kernel_rfl) hg (by rw [hcl]; exact (Nat.min_eq_left hN).symm) hcells (by omega) h1c
    rw [hcl] at hrun
    have hnew : (cur.toList.take 0 ++ cellsOf l ++ cur.toList.drop (0 + l.length)) = cellsOf (l ++ List.replicate (N - l.length) 0) := by
      rw [htl]
      simp [cellsOf, List.drop_replicate]
    rw [hnew] at hrun
    refine ⟨_, hrun, ⟨by simp [cellsOf]; omega, .inr ⟨G, N, _, rfl, hb, setRow_heap w G _ _ _ _ hg, Nat.le_refl _, hc2, by simp [cellsOf]; omega, List.take_of_length_le (by simp [cellsOf]; omega)⟩⟩, ⟨rfl, rfl, rfl, by simp [World.setRow], fun k _ hk => setRow_other w G k _ (fun e => hk (by rw [e]))⟩⟩
def GoesOn (R : Act → World → Prop) : Exit → Act → World → Prop
 | .normal, a, w => R a w
 | .ret, _, _ => False
 | .exit _, _, _ => False
 | .goto _, _, _ => False
 | .panic _, _, _ => False
 | .outgrown, _, _ => False
theorem goesOn_then {F : Fence} {n : Nat} {P : Program} {c : Code} {K : Act → World → Prop} {Q : Exit → Act → World → Prop} {a : Act} {w : World} (h : c.wpIn F n P (GoesOn K) a w) : c.wpIn F n P (Exit.then K Q) a w :=
 wpIn_mono h fun e _ _ hh => by
  cases e with
  | normal => exact hh
  | ret => exact hh.elim
  | exit _ => exact hh.elim
  | goto _ => exact hh.elim
  | panic _ => exact hh.elim
  | outgrown => exact hh.elim
theorem goesOn_via {F : Fence} {n : Nat} {P : Program} {c : Code} {K : Act → World → Prop} {Q : Exit → Act → World → Prop} {a : Act} {w : World} (R : Act → World → Prop) (h : c.wpIn F n P (GoesOn R) a w) (hR : ∀ a' w', R a' w' → K a' w') : c.wpIn F n P (Exit.then K Q) a w :=
 goesOn_then (wpIn_mono h fun e _ _ hh => by
  cases e with
  | normal => exact hR _ _ hh
  | ret => exact hh.elim
  | exit _ => exact hh.elim
  | goto _ => exact hh.elim
  | panic _ => exact hh.elim
  | outgrown => exact hh.elim)
structure DivW (vQ : Value) (N S La K gs caps B1 d : Nat) (b : Option Addr) (capb : Nat) (R : List Nat) (w0 W : World) : Prop where
 bB : Boxed W N 22 (.slice b (K + 2) capb)
 bQ : Boxed W (N + 1) 22 vQ
 bR : Boxed W (N + 1 + 1) 22 (.slice (some ⟨S + 1, 0, none⟩) (La + 1) (La + 1))
 bS : Boxed W S 22 (.slice (some ⟨gs, 0, none⟩) (K + 2) caps)
 ls : LimF B1 W (.slice (some ⟨gs, 0, none⟩) (K + 2) caps) (dig d)
 row : W.ownsRow (S + 1) 59 1 (.slice (some ⟨S + 1, 0, none⟩) (La + 1) (La + 1)) (La + 1) (cellsOf R)
 hB : Below N w0 W
 hS : S + 1 < W.heap.size
 hN : N + 1 + 1 + 1 ≤ B1
 hg : gs < S
 hg1 : B1 ≤ gs
theorem DivW.moved {vQ : Value} {N S La K gs caps B1 d : Nat} {b : Option Addr} {capb : Nat} {R R' : List Nat} {w0 W W' : World} (h : DivW vQ N S La K gs caps B1 d b capb R w0 W) (hg : W.grownBy W' (some (S + 1)))
    (hrow : W'.ownsRow (S + 1) 59 1 (.slice (some ⟨S + 1, 0, none⟩) (La + 1) (La + 1)) (La + 1) (cellsOf R')) : DivW vQ N S La K gs caps B1 d b capb R' w0 W' := by
  have h1 := h.hN
  have h2 := h.hg
  have h3 := h.hg1
  refine ⟨h.bB.kept hg (by simp <;> omega), h.bQ.kept hg (by simp <;> omega), h.bR.kept hg (by simp <;> omega), h.bS.kept hg (by simp), h.ls.kept hg (fun r e => by cases e; simp [Value.ownBlock]; omega), hrow,
    h.hB.grown hg (by have := h.hS; omega) (fun k e => by cases e; omega), Nat.lt_of_lt_of_le h.hS hg.size, h.hN, h.hg, h.hg1⟩
theorem DivW.below {vQ : Value} {N S La K gs caps B1 d : Nat} {b : Option Addr} {capb : Nat} {R : List Nat} {w0 W W' : World} (h : DivW vQ N S La K gs caps B1 d b capb R w0 W) (hb : Below W.heap.size W W') : DivW vQ N S La K gs caps B1 d b capb R w0 W' :=
 ⟨Boxed.below h.bB hb, Boxed.below h.bQ hb, Boxed.below h.bR hb, Boxed.below h.bS hb, h.ls.below hb, ownsRow_below h.row hb, h.hB.trans (hb.mono (by have h1 := h.hN; have h2 := h.hg; have h3 := h.hg1; have h4 := h.hS; omega)), Nat.lt_of_lt_of_le h.hS hb.size, h.hN, h.hg, h.hg1⟩
theorem DivW.kept {vQ : Value} {N S La K gs caps B1 d : Nat} {b : Option Addr} {capb : Nat} {R : List Nat} {w0 W W' : World} {row : Option Nat} (h : DivW vQ N S La K gs caps B1 d b capb R w0 W) (hg : W.grownBy W' row)
    (hr : ∀ r, row = some r → N + 1 + 1 + 1 ≤ r ∧ r ≠ S ∧ r ≠ S + 1 ∧ r ≠ gs) : DivW vQ N S La K gs caps B1 d b capb R w0 W' := by
  have h1 := h.hN
  have h2 := h.hg
  have h3 := h.hg1
  have h4 := h.hS
  have k : ∀ B, B < N + 1 + 1 + 1 ∨ B = S ∨ B = S + 1 ∨ B = gs → some B ≠ row := fun B hB e => by
    obtain ⟨r1, r2, r3, r4⟩ := hr B e.symm
    omega
  refine ⟨h.bB.kept hg (k _ (by omega)), h.bQ.kept hg (k _ (by omega)), h.bR.kept hg (k _ (by omega)), h.bS.kept hg (k _ (by omega)), h.ls.kept hg (fun r e => ?_), h.row.kept hg (.inr fun e => k (S + 1) (by omega) e),
    h.hB.grown hg (by omega) (fun r e => by have := hr r e; omega), Nat.lt_of_lt_of_le h.hS hg.size, h.hN, h.hg, h.hg1⟩
  intro e2
  simp [Value.ownBlock] at e2
  exact k r (by omega) e.symm
theorem DivW.setQ {vQ vQ' : Value} {N S La K gs caps B1 d : Nat} {b : Option Addr} {capb : Nat} {R : List Nat} {w0 W : World} (h : DivW vQ N S La K gs caps B1 d b capb R w0 W) : DivW vQ' N S La K gs caps B1 d b capb R w0 (W.setCell ⟨N + 1, 0, none⟩ vQ') := by
  have h1 := h.hN
  have h2 := h.hg
  have h3 := h.hg1
  have hg := grownBy_setCell' W (N + 1) vQ'
  exact ⟨h.bB.kept hg (by simp), h.bQ.set _, h.bR.kept hg (by simp <;> omega), h.bS.kept hg (by simp; omega), h.ls.kept hg (fun r e => by cases e; simp [Value.ownBlock]; omega), h.row.kept hg (.inr (by simp [Value.ownBlock]; omega)),
    h.hB.setCell (p := ⟨N + 1, 0, none⟩) (by simp) _, Nat.lt_of_lt_of_le h.hS hg.size, h.hN, h.hg, h.hg1⟩
def LoopI (Gq D A N S La K gs caps B1 d : Nat) (b : Option Addr) (capb : Nat) (w0 : World) (pre : List (Iy (D + 1))) (W : World) : Prop :=
 ∃ R Q : List Nat, Lm R ∧ Lm Q ∧ Q.length = D + 1 ∧ DivW (.slice (some ⟨Gq, 0, none⟩) (D + 1) (D + 1)) N S La K gs caps B1 d b capb R w0 W ∧
  W.ownsRow Gq 59 1 (.slice (some ⟨Gq, 0, none⟩) (D + 1) (D + 1)) (D + 1) (cellsOf Q) ∧ (pre.map (fun x => x.1.1) = (List.range (D + 1)).reverse.take pre.length → DivInv A d (D + 1 - pre.length) R Q)
theorem loopI_own {Gq D A N S La K gs caps B1 d : Nat} {b : Option Addr} {capb : Nat} {w0 : World} {B : Nat} (h1 : N + 1 + 1 + 1 ≤ B) (h2 : S + 1 < B) (h3 : gs < B) (h4 : Gq < B) :
  OwnFrom B (LoopI Gq D A N S La K gs caps B1 d b capb w0) := by
 rintro pre X Y row ⟨R, Q, a1, a2, a3, a4, a5, a6⟩ hg hr
 exact ⟨R, Q, a1, a2, a3, a4.kept hg (fun r e => by have := (hr r e).1; omega), a5.kept hg (.inr (fun e => by have := (hr Gq e.symm).1; omega)), a6⟩
theorem valid_snoc {m : Nat} {pre : List (Iy m)} {x : Iy m} (h : (pre ++ [x]).map (fun x => x.1.1) = (List.range m).reverse.take (pre ++ [x]).length) :
  pre.map (fun x => x.1.1) = (List.range m).reverse.take pre.length ∧ x.1.1 = m - (pre.length + 1) ∧ pre.length + 1 ≤ m := by
 have hlen : pre.length + 1 ≤ m := by
  have := congrArg List.length h
  simp at this
  omega
 rw [show (pre ++ [x]).length = m - (m - (pre.length + 1)) from by simp; omega, take_down (by omega), List.map_append, show m - (m - (pre.length + 1) + 1) = pre.length from by omega] at h
 obtain ⟨e1, e2⟩ := List.append_inj' h (by simp)
 exact ⟨e1, by simpa using e2, hlen⟩
theorem loop_round {Gq D A N S La K gs caps B1 d Bs B : Nat} {b : Option Addr} {capb : Nat} {w0 W w3 : World} {pre : List (Iy (D + 1))} {x : Iy (D + 1)} {R Q P' : List Nat}
    (hR : Lm R) (hQ : Lm Q) (hQl : Q.length = D + 1) (hdw : DivW (.slice (some ⟨Gq, 0, none⟩) (D + 1) (D + 1)) N S La K gs caps B1 d b capb R w0 W)
    (hrow : W.ownsRow Gq 59 1 (.slice (some ⟨Gq, 0, none⟩) (D + 1) (D + 1)) (D + 1) (cellsOf Q)) (hc : pre.map (fun x => x.1.1) = (List.range (D + 1)).reverse.take pre.length → DivInv A d (D + 1 - pre.length) R Q)
    (hLa : D + (K + 2) ≤ La) (hRl : R.length = La + 1) (hd0 : 0 < d) (hd : d < 65536 ^ (K + 2)) (hP : Lm P') (hPl : P'.length = K + 3)
    (hPv : val P' = val ((R.drop x.1.1).take (K + 3)) - min (val ((R.drop x.1.1).take (K + 3)) / d) 65535 * d) (g3 : W.grownBy w3 (some (S + 1)))
    (row3 : w3.ownsRow (S + 1) 59 1 (.slice (some ⟨S + 1, 0, none⟩) (La + 1) (La + 1)) (La + 1) (cellsOf (splice R x.1.1 P')))
    (hBs : Bs ≠ S + 1) (hBs2 : Bs ≠ Gq) (hGq : S + 1 < Gq) (hB1 : S + 1 < B) :
    KeepsFrom B W (w3.setCell ⟨Gq, x.1.1, none⟩ (.int .u16 ((min (val ((R.drop x.1.1).take (K + 3)) / d) 65535 : Nat) : Int))) ∧
      KpQ Bs Gq 0 (D + 1) W (w3.setCell ⟨Gq, x.1.1, none⟩ (.int .u16 ((min (val ((R.drop x.1.1).take (K + 3)) / d) 65535 : Nat) : Int))) ∧
      LoopI Gq D A N S La K gs caps B1 d b capb w0 (pre ++ [x]) (w3.setCell ⟨Gq, x.1.1, none⟩ (.int .u16 ((min (val ((R.drop x.1.1).take (K + 3)) / d) 65535 : Nat) : Int))) := by
  have hx := x.2
  have hq3 := hrow.kept g3 (.inr (by simp [Value.ownBlock]; omega))
  obtain ⟨q4, g4⟩ := hq3.stored x.1.1 (.int .u16 ((min (val ((R.drop x.1.1).take (K + 3)) / d) 65535 : Nat) : Int))
  rw [cellsOf_set] at q4
  have hlim : min (val ((R.drop x.1.1).take (K + 3)) / d) 65535 < 65536 := by omega
  have hN := hdw.hN
  have hg := hdw.hg
  have hg1 := hdw.hg1
  refine ⟨(KeepsFrom.of_grownBy g3 (fun j e => by cases e; exact hB1)).trans ((KeepsOthers.setCell _ _ _).from _), ⟨fun v e => ?_, fun _ j hj => ?_⟩, splice R x.1.1 P', Q.set x.1.1 (min (val ((R.drop x.1.1).take (K + 3)) / d) 65535), splice_Lm hR hP, hQ.set _ hlim, by simp [hQl], ?_, q4, fun hv => ?_⟩
  · have e1 := g3.cell e (by simp; exact hBs)
    rw [← e1]
    exact World.cell?_of_block (Below.heap_setCell w3 _ _ Bs hBs2)
  · refine ⟨((Q.set x.1.1 (min (val ((R.drop x.1.1).take (K + 3)) / d) 65535))[j]?.getD 0), ?_⟩
    rw [Nat.zero_add, q4.cellAt j (by omega), cellsOf_get _ _ (by simp [hQl]; omega)]
  · exact (hdw.moved g3 row3).kept g4 (fun r e => by cases e; omega)
  · obtain ⟨v1, v2, v3⟩ := valid_snoc hv
    have hinv := hc v1
    have e1 : D + 1 - pre.length = x.1.1 + 1 := by omega
    rw [e1] at hinv
    rw [show D + 1 - (pre ++ [x]).length = x.1.1 from by simp; omega]
    exact div_step (L := K + 2) hR hd0 hd (by omega) (by omega) hinv hPl hPv
theorem slice_mid (W : World) (a : Addr) (n cap i j : Nat) (x : Int) (hx : x = (j : Int)) (h1 : i ≤ j) (h2 : j ≤ cap) (h3 : i < cap) :
  (Instr.slice 22 (.slice (some a) n cap) (some (.int .i64 (i : Int))) (some (.int .i64 x)) none).run Tryz.prog W = .ok (.slice (some (a.add i)) (j - i) (cap - i)) W := by
 subst hx
 have ht : Tryz.prog.underlying 22 = some (.slice (Tryz.prog.elem 22)) := by kernel_rfl
 have hz : (sizeOf (Tryz.prog.elem 22)).run Tryz.prog W = .ok 1 W := by kernel_rfl
 rw [run_slice_lh (w := W) (t := 22) (a := some a) (len := n) (cap := cap) ht .i64 .i64 (i : Int) (j : Int) (by omega) (by omega) (by omega), hz]
 simp only [Result.andThen, sliced, Int.toNat_natCast, Nat.mul_one, Option.map_some]
 rw [if_neg (by omega)]
end Go.Proofs.YtmbcnfogjncdaaaGreat
namespace Go.Proofs.YtmbcnfogjncdaaaGreat
open Go.RowKit Go.Shelf Wh
def noDefer (ops : Array Oper) : Bool := ops.all fun o => match o.op with | .defer _ => false | _ => true
theorem rowsIn_wide {y n : Nat} {P : Program} {row : String} {args : Array Value} {w : World} {R : Value → World → Prop} (h : Rows P row args w R) : RowsIn (Fence.wide.inRound y) n P row args w R :=
 fun c cs _ => let ⟨v, w', r, s⟩ := h c cs; ⟨v, w', r, stepsIn_wide.2 s⟩
theorem anyIn_of_any {y n : Nat} {P : Program} {md : Region.Mode} {ops : Array Oper} {Q : Exit → Act → World → Prop} (hnd : noDefer ops = true) (hL : ∀ a w, ¬ Q .outgrown a w) :
    ∀ (fuel : Nat) (listed : Array Bool) (a : Act) (w : World), wpAny P md ops Q fuel listed a w → wpAnyIn (Fence.wide.inRound y) n P md ops Q fuel listed a w
  | 0, _, _, _, h => h
  | fuel + 1, listed, a, w, h => by
    refine ⟨h.1, fun i hi => ?_⟩
    have h1 := h.2 i hi
    have ih := anyIn_of_any (y := y) (n := n) (P := P) (md := md) hnd hL fuel (listed.setIfInBounds i true)
    unfold wpOp at h1
    unfold wpOpIn
    cases ho : ops[i]? with
    | none => rw [ho] at h1; exact ih _ _ h1
    | some o =>
      rw [ho] at h1
      simp only at h1 ⊢
      have hd : ∀ c, o.op ≠ .defer c := fun c e => by
        have := (Array.all_eq_true.1 hnd) i (Array.getElem?_eq_some_iff.1 ho).1
        rw [(Array.getElem?_eq_some_iff.1 ho).2, e] at this
        cases this
      split
      · rename_i hw
        rw [if_pos hw] at h1
        rcases h1 with h1 | ⟨_, a', w', hlet⟩
        · refine ⟨fun _ _ => trivial, ?_⟩
          have es : o.semAt (Fence.wide.inRound y).round a.eval = execOp a.eval o := Oper.semAt_some y _ _ hd
          rw [es]
          unfold Oper.wp at h1
          generalize (execOp a.eval o).run P w = r at *
          cases r with
          | ok nx w' =>
            cases nx with
            | value v => exact ih _ _ h1
            | skip => exact ih _ _ h1
            | defer d => exact ih _ _ h1
            | enter f args =>
              refine ⟨fun e => (by simp [Fence.wide, Fence.inRound] at e), ?_⟩
              refine CallsIn.inRound y (callsIn_wide.2 (Calls.mono h1 fun e w'' he => ?_))
              cases e with
              | returned u => exact ih _ _ he
              | panicked c => exact he
              | outgrown => exact he
            | row row args => exact ⟨fun e => (by simp [Fence.wide, Fence.inRound] at e), rowsIn_wide (Rows.mono h1 fun u w'' he => ih _ _ he)⟩
            | _ => exact absurd h1 (by simp [Oper.upon])
          | halt x w' =>
            cases x with
            | panic u => exact h1
            | _ => exact absurd h1 (by simp [Oper.upon])
        · exact absurd hlet (hL a' w')
      · rename_i hw
        rw [if_neg hw] at h1
        exact ⟨fun _ _ => trivial, ih _ _ h1⟩
end Go.Proofs.YtmbcnfogjncdaaaGreat
