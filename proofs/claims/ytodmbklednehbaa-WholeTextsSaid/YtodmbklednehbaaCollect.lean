/-
'collect': digits with carries. The two closures share a carry and a slice; what has been put so far is a number.
-/
import Derived.Laws.EntriesVeiled
import Derived.Maps.AppendAt
import Derived.Test.YtodmbklednehbaaSmall
namespace Go.Proofs.Ytodmbklednehbaa
open Go.RowKit Wh

def putV (Bc Bl : Nat) : Value := .func (.func 78) #[] #[.pointer (some ⟨Bc, 0, none⟩), .pointer (some ⟨Bl, 0, none⟩)]
def endV (Bp Bc Bl : Nat) : Value := .func (.func 79) #[] #[.pointer (some ⟨Bc, 0, none⟩), .pointer (some ⟨Bp, 0, none⟩), .pointer (some ⟨Bl, 0, none⟩)]

theorem box_ne {W : World} {B B' : Nat} {t t' : TypeId} {v v' : Value} (h : Boxed W B t v) (k : Boxed W B' t' v') (htt : t ≠ t') : ¬ B = B' := fun e => by
  subst e
  have := (show W.heap[B]? = _ from h).symm.trans k
  simp at this
  exact htt this.2

theorem cell_set_new (w : World) (p : Addr) (v x : Value) (T : TypeId) : ∀ j u, [x][j]? = some u → ((w.setCell p v).alloc (.cells #[x] T)).cell? ((⟨w.heap.size, 0, none⟩ : Addr).add j) = some u := by
  have h := cell_one_new (w.setCell p v) x T
  have e : (w.setCell p v).heap.size = w.heap.size := by simp [World.setCell]
  rw [e] at h
  exact h

/-- The boxes of a collection: limbs l have been made, c is carried. -/
def Col (B : Nat) (W : World) (Bp Bc Bl : Nat) (l : List Nat) (c : Int) : Prop :=
  Boxed W Bp 77 (putV Bc Bl) ∧ Boxed W Bc 2 (.int .i64 c) ∧ (∃ v, Boxed W Bl 24 v ∧ W.ownsRow B 22 1 v l.length (cellsOf l)) ∧ B ≤ Bp ∧ B ≤ Bc ∧ B ≤ Bl

set_option maxRecDepth 100000 in
set_option maxHeartbeats 1000000 in
theorem collect_any (room : Int) (h0 : 0 ≤ room) (h : room ≤ 140737488351232) (w : World) :
    Calls Try.prog 73 #[.int .i64 room] w fun e w' => (∃ Bp Bc Bl, e = .returned (.tuple #[putV Bc Bl, endV Bp Bc Bl]) ∧ Col w.heap.size w' Bp Bc Bl [] 0) ∧ Below w.heap.size w w' := by
  obtain ⟨r, rfl⟩ := Int.eq_ofNat_of_zero_le h0
  obtain ⟨i0, hi, hz0, hz1, hz2⟩ := info_parts Try.infoU
  go_enter Try.func73, Try.ntmps73
  go_wp2_with (at_make; refine wpList_make_own _ rfl _ _ 24 rfl w.heap.size 22 i0 (.int .u16 0) 1 Try.underlying24 hi hz0 hz1 _ _ _ r rfl rfl rfl (by rw [hz2]; omega) (by unfold maxLen; omega) (by simp) ?_; intro w1 hown hgrow; have b2 := (Boxed.new w 77 .nilFunc).kept hgrow (by simp); have c2 := b2.cell; have f2 := b2.frozen; have hlt := b2.lt)
  have b3 := (b2.set (putV (w1.heap.size + 1) w1.heap.size)).set (putV (w1.heap.size + 1) w1.heap.size)
  have g3 : w1.grownBy ((w1.setCell ⟨w.heap.size, 0, none⟩ (putV (w1.heap.size + 1) w1.heap.size)).setCell ⟨w.heap.size, 0, none⟩ (putV (w1.heap.size + 1) w1.heap.size)) (some w.heap.size) :=
    (grownBy_setCell' w1 w.heap.size _).trans (grownBy_setCell' _ w.heap.size _)
  rw [World.size_alloc] at hown
  have o3 := hown.kept g3 (.inr (by simp [Value.ownBlock]))
  have B3 := (((Below.refl w.heap.size w).alloc (Nat.le_refl _) (.cells #[.nilFunc] 77)).grown hgrow (by simp) (fun k e => by cases e)).grown g3 (by omega) (fun k e => by cases e; omega)
  change bodyPost _ _ _ _ _ ((World.alloc (World.alloc ((w1.setCell ⟨w.heap.size, 0, none⟩ (putV (w1.heap.size + 1) w1.heap.size)).setCell ⟨w.heap.size, 0, none⟩ (putV (w1.heap.size + 1) w1.heap.size)) _) _))
  have hX : ((w1.setCell ⟨w.heap.size, 0, none⟩ (putV (w1.heap.size + 1) w1.heap.size)).setCell ⟨w.heap.size, 0, none⟩ (putV (w1.heap.size + 1) w1.heap.size)).heap.size = w1.heap.size := by simp [World.setCell]
  generalize ((w1.setCell ⟨w.heap.size, 0, none⟩ (putV (w1.heap.size + 1) w1.heap.size)).setCell ⟨w.heap.size, 0, none⟩ (putV (w1.heap.size + 1) w1.heap.size)) = X at b3 o3 B3 hX ⊢
  have b4 := (b3.alloc (.cells #[.slice (some ⟨w.heap.size + 1, 0, none⟩) 0 r] 24)).alloc (.cells #[.int .i64 0] 2)
  have b5 := (Boxed.new X 24 (.slice (some ⟨w.heap.size + 1, 0, none⟩) 0 r)).alloc (.cells #[.int .i64 0] 2)
  have b6 := Boxed.new (X.alloc (.cells #[.slice (some ⟨w.heap.size + 1, 0, none⟩) 0 r] 24)) 2 (.int .i64 0)
  rw [World.size_alloc] at b6
  rw [hX] at b5 b6
  have c4 := b4.cell
  unfold putV at c4
  refine bodyPost_ret (v := .tuple #[putV (w1.heap.size + 1) w1.heap.size, endV w.heap.size (w1.heap.size + 1) w1.heap.size]) (by simp [results, Try.results73, go_sem, c4, putV, endV]) rfl ?_
  exact ⟨⟨_, _, _, rfl, b4, b6, ⟨_, b5, (o3.alloc _).alloc _⟩, Nat.le_refl _, by omega, by omega⟩, (B3.alloc (by omega) _).alloc (by simp; omega) _⟩

/-- What putting a digit does to the limbs and to the carry. -/
theorem put_step (l : List Nat) (c d : Int) : ((val (l ++ [((c + d) % 65536).toNat]) : Nat) : Int) + ((65536 ^ (l.length + 1) : Nat) : Int) * ((c + d) / 65536) = (val l : Int) + ((65536 ^ l.length : Nat) : Int) * (c + d) := by
  rw [val_append]
  simp only [val_cons, val_nil, Nat.mul_zero, Nat.add_zero, Nat.pow_succ]
  have h1 : ((c + d) % 65536).toNat = (c + d) % 65536 := Int.toNat_of_nonneg (by omega)
  have h2 : c + d = (c + d) % 65536 + 65536 * ((c + d) / 65536) := by omega
  generalize 65536 ^ l.length = p
  rw [show ((val l + p * ((c + d) % 65536).toNat : Nat) : Int) = (val l : Int) + (p : Int) * (((c + d) % 65536).toNat : Int) from by simp [Int.natCast_add, Int.natCast_mul], h1]
  rw [show ((p * 65536 : Nat) : Int) = (p : Int) * 65536 from by simp [Int.natCast_mul]]
  conv => rhs; rw [h2, Int.mul_add]
  rw [Int.mul_assoc]
  omega

set_option maxRecDepth 100000 in
set_option maxHeartbeats 1000000 in
theorem put_any (B Bp Bc Bl : Nat) (l : List Nat) (c d : Int) (hlo : -9223372036854775808 ≤ c + d) (hhi : c + d ≤ 9223372036854775807) (hl : l.length ≤ 1048576) (w : World) (hB : B ≤ w.heap.size) (h : Col B w Bp Bc Bl l c) :
    Calls Try.prog 78 #[.int .i64 d, .pointer (some ⟨Bc, 0, none⟩), .pointer (some ⟨Bl, 0, none⟩)] w fun e w' => e = .returned (.tuple #[]) ∧ Col B w' Bp Bc Bl (l ++ [((c + d) % 65536).toNat]) ((c + d) / 65536) ∧ Below B w w' := by
  obtain ⟨i0, hi, hz0, hz1, hz2⟩ := info_parts Try.infoU
  obtain ⟨hp, hc, ⟨v, hv, hown⟩, h1, h2, h3⟩ := h
  have cc := hc.cell
  have fc := hc.frozen
  have cv := hv.cell
  have n1 : ¬ Bc = Bl := box_ne hc hv (by decide)
  have n2 : ¬ Bl = Bc := box_ne hv hc (by decide)
  have hs : (w.setCell ⟨Bc, 0, none⟩ (.int .i64 (c + d))).heap.size = w.heap.size := by simp [World.setCell]
  have hown2 := hown.kept (grownBy_setCell' w Bc (.int .i64 (c + d))) (.inr (hc.not_row (by decide) hown).symm)
  have hc2 := hc.set (.int .i64 (c + d))
  have hv2 := hv.kept (grownBy_setCell' w Bc (.int .i64 (c + d))) (by simp [n2])
  have hp2 := hp.kept (grownBy_setCell' w Bc (.int .i64 (c + d))) (by simp; exact box_ne hp hc (by decide))
  have hB2 := (Below.refl B w).setCell (p := ⟨Bc, 0, none⟩) h2 (.int .i64 (c + d))
  have hvl := hv.lt
  have hcl := hc.lt
  have HC := Lib.hid hc
  have HV := Lib.hid hv
  have HS := Lib.hid hs
  clear hc hv hs
  go_enter Try.func78, Try.ntmps78
  go_wp2_with (at_builtin; refine wpList_append_own _ rfl _ _ 24 rfl B 22 i0 (.int .u16 0) 1 2 Try.underlying24 hi hz0 hz1 hz2 rfl (by decide) _ _ _ rfl (hown2.alloc _) ⟨w.heap.size, 0, none⟩ 1 1 [.int .u16 (IntKind.u16.wrap (c + d))] rfl rfl (cell_set_new _ _ _ _ _) (by simp [Value.oneCell']) (by unfold maxLen; omega) (by omega) (by simp; omega) ?_; intro v' w1 hown' hgrow _; obtain ⟨g', cap', rfl⟩ := ownsRow_succ hown'; obtain ⟨hv1, hv3, hr3, hk3, hb3⟩ := hv2.appended (by decide) hown2 (by rw [HS.out]; exact hB) h3 hown' hgrow; have hc3 := (hc2.alloc _).kept hgrow (hc2.not_row (by decide) hown2); have cv3 := hv1.cell; have fv3 := hv1.frozen; have cc3 := hc3.cell; have fc3 := hc3.frozen)
  go_end0
  have hp3 := ((hp2.alloc _).kept hgrow (hp2.not_row (by decide) hown2)).kept (grownBy_setCell' w1 Bl (.slice (some ⟨g', 0, none⟩) (l.length + 1) cap')) (by simp; exact box_ne hp HV.out (by decide))
  have hc4 := hc3.kept (grownBy_setCell' w1 Bl (.slice (some ⟨g', 0, none⟩) (l.length + 1) cap')) (by simp [n1])
  have hv4 := hv3.kept (grownBy_setCell' _ Bc (.int .i64 ((c + d) / 65536))) (by simp [n2])
  have hp4 := hp3.kept (grownBy_setCell' _ Bc (.int .i64 ((c + d) / 65536))) (by simp; exact box_ne hp HC.out (by decide))
  have hr4 := hr3.kept (grownBy_setCell' _ Bc (.int .i64 ((c + d) / 65536))) (.inr (hc4.not_row (by decide) hr3).symm)
  have ec : cellsOf l ++ [.int .u16 (IntKind.u16.wrap (c + d))] = cellsOf (l ++ [((c + d) % 65536).toNat]) := by
    simp only [cellsOf, List.map_append, List.map_cons, List.map_nil]
    rw [Int.toNat_of_nonneg (by omega), IntKind.wrap_u16]
  rw [ec] at hr4
  exact ⟨rfl, ⟨hp4, hc4.set _, ⟨_, hv4, by simpa using hr4⟩, h1, h2, h3⟩, (hB2.trans hb3).setCell (p := ⟨Bc, 0, none⟩) h2 _⟩

def carryOf (W : World) (B : Nat) : Nat := match W.cell? ⟨B, 0, none⟩ with | some (.int _ n) => n.toNat | _ => 0
theorem carryOf_eq {W : World} {B : Nat} {n : Int} (h : W.cell? ⟨B, 0, none⟩ = some (.int .i64 n)) : carryOf W B = n.toNat := by simp [carryOf, h]

theorem end_step (l : List Nat) (c : Int) (h : 0 ≤ c) : val (l ++ [((c + 0) % 65536).toNat]) + 65536 ^ (l ++ [((c + 0) % 65536).toNat]).length * ((c + 0) / 65536).toNat = val l + 65536 ^ l.length * c.toNat := by
  have := put_step l c 0
  have h1 : (0 : Int) ≤ (c + 0) / 65536 := by omega
  simp only [List.length_append, List.length_cons, List.length_nil, Nat.zero_add]
  rw [Int.add_zero] at this h1 ⊢
  have e1 : ((c / 65536).toNat : Int) = c / 65536 := Int.toNat_of_nonneg h1
  have e2 : (c.toNat : Int) = c := Int.toNat_of_nonneg h
  rw [← e1] at this
  conv at this => rhs; rw [← e2]
  have e3 : ((c.toNat : Int) % 65536).toNat = (c % 65536).toNat := by rw [e2]
  rw [e2] at this
  rw [← e2] at this
  have g : ∀ a b p q r s : Nat, (a : Int) + (p : Int) * (q : Int) = (b : Int) + (r : Int) * (s : Int) → a + p * q = b + r * s := by
    intro a b p q r s hh
    have : ((a + p * q : Nat) : Int) = ((b + r * s : Nat) : Int) := by simpa [Int.natCast_add, Int.natCast_mul] using hh
    exact_mod_cast this
  have := g _ _ _ _ _ _ this
  simpa [e2] using this

def EndRel (B Bp Bc Bl : Nat) (l : List Nat) (c : Int) (w wr : World) : Prop :=
  ∃ (k : Nat) (l' : List Nat) (c' : Int), k ≤ 4 ∧ l'.length = l.length + k ∧ 0 ≤ c' ∧ c' ≤ 9223372036854775807 ∧ c'.toNat < 65536 ^ (4 - k) ∧ Lm l' ∧ val l' + 65536 ^ l'.length * c'.toNat = val l + 65536 ^ l.length * c.toNat ∧ Col B wr Bp Bc Bl l' c' ∧ Below B w wr

set_option maxRecDepth 100000 in
set_option maxHeartbeats 1000000 in
theorem end_any (B Bp Bc Bl : Nat) (l : List Nat) (c : Int) (hlm : Lm l) (hlo : 0 ≤ c) (hhi : c ≤ 9223372036854775807) (hl : l.length ≤ 1048570) (w : World) (hB : B ≤ w.heap.size) (h : Col B w Bp Bc Bl l c) :
    Calls Try.prog 79 #[.pointer (some ⟨Bc, 0, none⟩), .pointer (some ⟨Bp, 0, none⟩), .pointer (some ⟨Bl, 0, none⟩)] w fun e w' => (∃ v', e = .returned v' ∧ LimF B w' v' (dig (val l + 65536 ^ l.length * c.toNat))) ∧ Below B w w' := by
  go_enter Try.func79, Try.ntmps79
  go_wp2
  go_loopw [4] (fun _ wr => EndRel B Bp Bc Bl l c w wr) (fun _ wr => carryOf wr Bc)
  case atStart => exact ⟨0, l, c, by omega, by omega, hlo, hhi, by omega, hlm, rfl, h, Below.refl _ _⟩
  case round =>
    obtain ⟨k, l', c', hk, hl', hlo', hhi', hc', hlm', hv, hcol, hb⟩ := hrel
    have cc := hcol.2.1.cell
    have cp := hcol.1.cell
    obtain ⟨v, hv2, hown⟩ := hcol.2.2.1
    have cv := hv2.cell
    have hcol2 := hcol
    unfold putV at cp
    have HV := Lib.hid hv
    have HL := Lib.hid hl'
    have hll : l'.length ≤ 1048576 := by omega
    have hBr : B ≤ wr.heap.size := Nat.le_trans hB hb.size
    have em : carryOf wr Bc = c'.toNat := carryOf_eq cc
    have EM := Lib.hid em
    clear hv hl' em
    by_cases h0 : 0 < c'
    · go_wp2_with (go_at_call 78; refine (put_any B Bp Bc Bl l' c' 0 (by omega) (by omega) hll wr hBr hcol2).mono ?_; rintro e w1 ⟨rfl, hcol1, hb1⟩)
      have hk4 : k < 4 := by
        rcases Nat.lt_or_ge k 4 with h | h
        · exact h
        · have : 4 - k = 0 := by omega
          rw [this] at hc'
          omega
      refine ⟨⟨k + 1, _, _, by omega, by rw [List.length_append, HL.out]; rfl, by omega, by omega, ?_, hlm'.append (.cons (by omega) .nil), by rw [end_step l' c' hlo']; exact HV.out, hcol1, hb.trans hb1⟩, ?_⟩
      · have e : 65536 ^ (4 - k) = 65536 ^ (4 - (k + 1)) * 65536 := by rw [← Nat.pow_succ]; congr 1; omega
        rw [e] at hc'
        have : ((c' + 0) / 65536).toNat = c'.toNat / 65536 := by omega
        rw [this]
        exact Nat.div_lt_of_lt_mul (by rw [Nat.mul_comm]; exact hc')
      · rw [EM.out, carryOf_eq hcol1.2.1.cell]; omega
    · go_wp2_with (go_at_call 72; refine (trim_any v l' hlm' wr (Lim.of_owns hown (by omega))).mono ?_; rintro e w1 ⟨⟨v', rfl, hl1, hpt⟩, hb1⟩)
      go_ret
      have e0 : c' = 0 := by omega
      have ev := HV.out
      rw [e0] at ev
      simp only [Int.toNat_zero, Nat.mul_zero, Nat.add_zero] at ev
      rw [ev] at hl1
      exact ⟨⟨v', rfl, hl1, ((Fr.of_owns hown).part hpt).below hb1⟩, hb.trans (hb1.mono hBr)⟩

end Go.Proofs.Ytodmbklednehbaa
