/- A part of the proofs about fractions. -/
import Derived.BigQuiet
import Derived.Deep.DeepCutAuto
import Derived.Deep.QuietTactic
import Derived.Deep.RegionHeld3
import Derived.Laws.IdiomStrings
import Derived.Laws.OwnMore
import Derived.Outline
import Derived.OwnWalk
import Derived.Test.YtmbcnfogjncdaaaGreatQFl1
import Derived.Test.YtmbcnfogjncdaaaGreatQFl10
set_option maxRecDepth 100000
set_option maxHeartbeats 4000000
namespace Go.Proofs.YtmbcnfogjncdaaaGreat
open Go.RowKit Wh
def bytesOf (ds : List Nat) : List Value := ds.map fun (d : Nat) => Value.int .u8 ((48 + d : Nat) : Int)
def Sep (a : Option Addr) (l : List Nat) (v : Value) : Prop := l = [] ∨ ∃ b, a = some ⟨b, 0, none⟩ ∧ v.ownBlock ≠ some b
theorem Lim.grown {W W' : World} {a : Option Addr} {n cap : Nat} {l : List Nat} {row : Option Nat} (h : Lim W (.slice a n cap) l) (hg : W.grownBy W' row) (hs : l = [] ∨ ∃ b, a = some ⟨b, 0, none⟩ ∧ row ≠ some b) : Lim W' (.slice a n cap) l := by
  obtain ⟨a', cap', e, h1, h2, h3⟩ := h
  cases e
  refine ⟨a, cap, rfl, h1, h2, ?_⟩
  rcases hs with rfl | ⟨b, rfl, hne⟩
  · exact .inl rfl
  · rcases h3 with rfl | ⟨b', off, e, hc⟩
    · exact .inl rfl
    · cases e
      by_cases hl : l = []
      · exact .inl hl
      · have hb : b < W.heap.size := lt_of_cell (hc 0 (List.length_pos_iff.2 hl))
        exact .inr ⟨b, 0, rfl, fun j hj => (World.cell?_of_block (hg.block b hb (fun e => hne e.symm)) (a := ⟨b, 0 + j, none⟩)).trans (hc j hj)⟩
theorem Sep.next {W' : World} {base : Nat} {a : Option Addr} {n cap : Nat} {l : List Nat} {v v' : Value} {k : Nat} {ds : List Nat} (hs : Sep a l v) (h : Lim W' (.slice a n cap) l) (ho : W'.ownsRow base 5 1 v' k (bytesOf ds)) (hd : ds ≠ []) : Sep a l v' := by
  rcases hs with hs | ⟨b, rfl, hne⟩
  · exact .inl hs
  · by_cases hl : l = []
    · exact .inl hl
    · refine .inr ⟨b, rfl, fun e => ?_⟩
      obtain ⟨b', off, e', -, hc⟩ := h.block hl
      cases e'
      have c1 := hc 0 (List.length_pos_iff.2 hl)
      obtain ⟨x, r, rfl⟩ : ∃ x r, ds = x :: r := by
        cases ds with
        | nil => exact absurd rfl hd
        | cons x r => exact ⟨x, r, rfl⟩
      have c2 := ho.cells e 0 (.int .u8 ((48 + x : Nat) : Int)) (by simp [bytesOf])
      rw [add_eq] at c2
      rw [c1] at c2
      simp at c2
end Go.Proofs.YtmbcnfogjncdaaaGreat
namespace Go.Proofs.YtmbcnfogjncdaaaGreat
open Go.RowKit Wh
def isDig (c : UInt8) : Bool := decide (48 ≤ c.toNat) && decide (c.toNat ≤ 57)
def AreRel (s : ByteArray) (v6 : Value) : Prop := ∃ k : Nat, k ≤ s.size ∧ v6 = .int .i64 (k : Int) ∧ ∀ j (h : j < s.size), j < k → isDig s[j] = true
theorem all_of (s : ByteArray) (h : ∀ j (h : j < s.size), isDig s[j] = true) : s.data.toList.all isDig = true := by
 rw [List.all_eq_true]
 intro c hc
 obtain ⟨j, hj, rfl⟩ := List.mem_iff_getElem.1 hc
 exact h j (by simpa using hj)
theorem not_all_of (s : ByteArray) (j : Nat) (h : j < s.size) (hd : isDig s[j] = false) : s.data.toList.all isDig = false := by
 rw [List.all_eq_false]
 exact ⟨s[j], List.getElem_mem (l := s.data.toList) (by simpa using h), by simp [hd]⟩
theorem areDigits_any (s : ByteArray) (hs : s.size ≤ maxLen) (w : World) :
    Calls Tryz.prog 56 #[.string s] w fun e w' => e = .returned (.bool (s.data.toList.all isDig && decide (0 < s.size))) ∧ w = w' := by
  unfold maxLen at hs
  obtain ⟨r, hr⟩ : ∃ r, r = (s.data.toList.all isDig && decide (0 < s.size)) := ⟨_, rfl⟩
  rw [← hr]
  have HR := Lib.hid hr
  clear hr
  go_enter Tryz.func56, Tryz.ntmps56
  go_wp2
  go_loop [6] (fun v6 => AreRel s v6) (fun v6 => s.size - (intOf v6).toNat)
  case atStart => exact ⟨0, Nat.zero_le _, rfl, fun j _ h => absurd h (Nat.not_lt_zero _)⟩
  case round =>
    obtain ⟨k, hk, rfl, hz⟩ := hrel
    have HZ := Lib.hid hz
    clear hz
    rcases Nat.lt_or_ge k s.size with hlt | hge
    · rcases Nat.lt_or_ge s[k].toNat 48 with h1 | h1
      · have HX := Lib.hid (not_all_of s k hlt (by simp [isDig]; omega))
        have h1' : (s[k].toNat : Int) < 48 := by omega
        go_wp2
        go_ret
        exact ⟨by rw [HR.out, HX.out]; rfl, rfl⟩
      · rcases Nat.lt_or_ge 57 s[k].toNat with h2 | h2
        · have HX := Lib.hid (not_all_of s k hlt (by simp [isDig]; omega))
          have h1' : ¬ (s[k].toNat : Int) < 48 := by omega
          have h2' : (57 : Int) < (s[k].toNat : Int) := by omega
          go_wp2
          go_ret
          exact ⟨by rw [HR.out, HX.out]; rfl, rfl⟩
        · have HX := Lib.hid (show isDig s[k] = true by simp [isDig]; omega)
          have h1' : ¬ (s[k].toNat : Int) < 48 := by omega
          have h2' : ¬ (57 : Int) < (s[k].toNat : Int) := by omega
          go_wp2
          case roundEnd =>
            refine ⟨⟨k + 1, by omega, by go_num, fun j h hj => ?_⟩, by simp [intOf]; omega⟩
            by_cases e : j = k
            · subst e; exact HX.out
            · exact HZ.out j h (by omega)
    · have HX := Lib.hid (all_of s fun j h => HZ.out j h (by omega))
      go_wp2
      go_ret
      exact ⟨by rw [HR.out, HX.out]; rfl, rfl⟩
end Go.Proofs.YtmbcnfogjncdaaaGreat
namespace Go.Proofs.YtmbcnfogjncdaaaGreat
open Go.RowKit Wh
def SameRel (l l' : List Nat) (w wr : World) (X2 X3 : Nat) (x2 y2 x3 y3 : Value) (v5 : Value) : Prop :=
 ∃ k : Nat, k ≤ l.length ∧ v5 = .int .i64 (k : Int) ∧ (∀ j, j < k → l[j]?.getD 0 = l'[j]?.getD 0) ∧ Below w.heap.size w wr ∧ Bx wr X2 x2 y2 ∧ Bx wr X3 x3 y3
theorem belowN {B : Nat} {a w : World} (h : Below B a w) (n : Nat) : Below B a (w.drewN n) := h.trans ⟨rfl, rfl, rfl, Nat.le_refl _, fun _ _ => rfl⟩
theorem Bx.drewN {W : World} {B : Nat} {x y : Value} (h : Bx W B x y) (n : Nat) : Bx (W.drewN n) B x y := h
theorem eq_of_all {l l' : List Nat} (h : l.length = l'.length) (hz : ∀ j, j < l.length → l[j]?.getD 0 = l'[j]?.getD 0) : l = l' := by
 refine List.ext_getElem h fun j h1 h2 => ?_
 have := hz j h1
 rwa [getD_lt_length h1, getD_lt_length h2] at this
theorem cell_of_lim {W : World} {b off n cap : Nat} {l : List Nat} (h : Lim W (.slice (some ⟨b, off, none⟩) n cap) l) (j : Nat) (hj : j < l.length) : W.cell? ⟨b, off + j, none⟩ = some (.int .u16 ((l[j]?.getD 0 : Nat) : Int)) := by
 obtain ⟨b', off', e, -, hc⟩ := h.block (fun e => by rw [e] at hj; simp at hj)
 cases e
 exact hc j hj
theorem lim_addr {W : World} {a : Option Addr} {n cap : Nat} {l : List Nat} (h : Lim W (.slice a n cap) l) (hl : 0 < l.length) : ∃ b off, a = some ⟨b, off, none⟩ := by
 obtain ⟨b', off', e, -, -⟩ := h.block (fun e => by rw [e] at hl; simp at hl)
 exact ⟨b', off', e⟩
theorem refSame_any (b : Bool) (s : Value) (l : List Nat) (b' : Bool) (s' : Value) (l' : List Nat) (w : World) (h : Lim w s l) (g : Lim w s' l') :
    Calls Tryz.prog 10 #[.agg #[.bool b, s], .agg #[.bool b', s']] w fun e w' => e = .returned (.bool (decide (b = b' ∧ l = l'))) ∧ Below w.heap.size w w' := by
  obtain ⟨aa, ca, rfl, hlc, ⟨hcm, hcl, -⟩, -⟩ := id h
  obtain ⟨ab, cb, rfl, glc, ⟨gcm, gcl, -⟩, -⟩ := id g
  have hz := ((Below.refl w.heap.size w).alloc (Nat.le_refl _) (.cells #[.bool b, .slice aa l.length ca] 24)).alloc (by simp) (.cells #[.bool b', .slice ab l'.length cb] 24)
  have x2 := (Bx.new w (.bool b) (.slice aa l.length ca)).alloc (.cells #[.bool b', .slice ab l'.length cb] 24)
  have x3 := Bx.new (w.alloc (.cells #[.bool b, .slice aa l.length ca] 24)) (.bool b') (.slice ab l'.length cb)
  simp only [World.size_alloc] at x3
  obtain ⟨r, hr⟩ : ∃ r, r = decide (b = b' ∧ l = l') := ⟨_, rfl⟩
  rw [← hr]
  have HR := Lib.hid hr
  clear hr
  by_cases hb : b = b'
  · subst hb
    by_cases hl : l.length = l'.length
    · have hl0 : ((l.length : Int) != (l'.length : Int)) = false := by simp [hl]
      have HL := Lib.hid hl
      clear hl
      go_enter Tryz.func10, Tryz.ntmps10
      go_wp2
      go_loopw [5] (fun v5 wr => SameRel l l' w wr w.heap.size (w.heap.size + 1) (.bool b) (.slice aa l.length ca) (.bool b) (.slice ab l'.length cb) v5) (fun v5 _ => l.length - (intOf v5).toNat)
      case atStart => exact ⟨0, Nat.zero_le _, rfl, fun j h => absurd h (Nat.not_lt_zero _), hz, x2, x3⟩
      case round =>
        obtain ⟨k, hk, rfl, hz1, hB, y2, y3⟩ := hrel
        obtain ⟨p2, p2'⟩ := y2.cells
        obtain ⟨p3, p3'⟩ := y3.cells
        have HZ := Lib.hid hz1
        clear hz1
        rcases Nat.lt_or_ge k l.length with hlt | hge
        · have hlt' : k < l'.length := by rw [← HL.out]; exact hlt
          obtain ⟨b1, o1, rfl⟩ := lim_addr h (by omega)
          obtain ⟨b2, o2, rfl⟩ := lim_addr g (by omega)
          have c1 := cell_of_lim (h.below hB (Nat.le_refl _)) k hlt
          have c2 := cell_of_lim (g.below hB (Nat.le_refl _)) k hlt'
          have i1 : (k : Int) < (l.length : Int) := by omega
          have i2 : (k : Int) < (l'.length : Int) := by omega
          have i0 : (0 : Int) ≤ (k : Int) := by omega
          obtain ⟨x, hx⟩ : ∃ x, x = l[k]?.getD 0 := ⟨_, rfl⟩
          obtain ⟨y, hy⟩ : ∃ y, y = l'[k]?.getD 0 := ⟨_, rfl⟩
          rw [← hx] at c1
          rw [← hy] at c2
          have HX := Lib.hid hx
          have HY := Lib.hid hy
          clear hx hy
          by_cases hxy : x = y
          · have hxy0 : ((x : Int) != (y : Int)) = false := by simp [hxy]
            have HXY := Lib.hid hxy
            clear hxy
            go_wp2
            go_quiet (fail)
            go_wp2
            case roundEnd =>
              refine ⟨⟨k + 1, by omega, by go_num, fun j hj => ?_, belowN hB _, y2.drewN _, y3.drewN _⟩, by simp [intOf]; omega⟩
              by_cases e : j = k
              · subst e; rw [← HX.out, ← HY.out]; exact HXY.out
              · exact HZ.out j (by omega)
          · have hxy0 : ((x : Int) != (y : Int)) = true := by simp; omega
            have HXY := Lib.hid hxy
            clear hxy
            go_wp2
            go_quiet (fail)
            go_wp2
            have hr0 : r = false := by
              rw [HR.out]
              exact decide_eq_false fun e => HXY.out (by rw [HX.out, HY.out, e.2])
            go_ret
            exact ⟨by rw [hr0]; rfl, belowN hB _⟩
        · have hge' : ¬ (k : Int) < (l.length : Int) := by omega
          go_wp2
          have hr0 : r = true := by
            rw [HR.out]
            have E := eq_of_all HL.out fun j hj => HZ.out j (by omega)
            exact decide_eq_true (by first | exact ⟨rfl, E⟩ | exact ⟨trivial, E⟩ | exact E)
          go_ret
          exact ⟨by rw [hr0]; rfl, hB⟩
    · have hl0 : ((l.length : Int) != (l'.length : Int)) = true := by simp; omega
      have hr0 : Hid (r = false) := Lib.hid (by rw [HR.out]; exact decide_eq_false fun e => hl (by rw [e.2]))
      clear hl
      go_enter Tryz.func10, Tryz.ntmps10
      go_wp2
      go_ret
      exact ⟨by rw [hr0.out]; rfl, hz⟩
  · have hb0 : b' = !b := by cases b <;> cases b' <;> simp at hb ⊢
    have hr0 : Hid (r = false) := Lib.hid (by rw [HR.out]; exact decide_eq_false fun e => hb e.1)
    subst hb0
    clear hb
    go_enter Tryz.func10, Tryz.ntmps10
    go_wp2
    go_ret
    exact ⟨by rw [hr0.out]; rfl, hz⟩
theorem refMake_any (b : Bool) (s : Value) (l : List Nat) (w : World) (h : Lim w s l) :
    Calls Tryz.prog 64 #[.bool b, s] w fun e w' => e = .returned (.agg #[.bool (b && decide (l ≠ [])), s]) ∧ Below w.heap.size w w' := by
  obtain ⟨a, cap, rfl, hlc, ⟨hcm, hcl, hcn⟩, hcs⟩ := id h
  clear hcn hcs
  cases b with
  | false =>
    go_enter Tryz.func64, Tryz.ntmps64
    go_wp2
    exact bodyPost_ret (v := .agg #[.bool false, .slice a l.length cap]) (by simp [results, Tryz.results64, go_sem]) rfl ⟨by simp, (Below.refl _ _).alloc (Nat.le_refl _) _⟩
  | true =>
    by_cases hl : l = []
    · subst hl
      go_enter Tryz.func64, Tryz.ntmps64
      go_wp2
      exact bodyPost_ret (v := .agg #[.bool false, .slice a 0 cap]) (by simp [results, Tryz.results64, go_sem]) rfl ⟨by simp, (Below.refl _ _).alloc (Nat.le_refl _) _⟩
    · have h0 : (0 : Int) < (l.length : Int) := by have := List.length_pos_iff.2 hl; omega
      go_enter Tryz.func64, Tryz.ntmps64
      go_wp2
      have hpos : 0 < l.length := List.length_pos_iff.2 hl
      exact bodyPost_ret (v := .agg #[.bool true, .slice a l.length cap]) (by simp [results, Tryz.results64, go_sem, hpos]) rfl ⟨by simp [hl], (Below.refl _ _).alloc (Nat.le_refl _) _⟩
end Go.Proofs.YtmbcnfogjncdaaaGreat
namespace Go.Proofs.YtmbcnfogjncdaaaGreat
open Go.RowKit Wh
def FIRel (n : Nat) (w wr : World) (v3 v4 : Value) : Prop := ∃ (m : Nat) (ds : List Nat), v3 = .int .u64 (m : Int) ∧ m < 18446744073709551616 ∧ dig n = ds ++ dig m ∧ wr.ownsRow (w.heap.size + 1) 59 1 v4 ds.length (cellsOf ds) ∧ Below w.heap.size w wr ∧ Bx wr w.heap.size (.bool false) (.slice none 0 0)
theorem cellsOf_snoc (ds : List Nat) (x : Nat) : cellsOf ds ++ [.int .u16 (x : Int)] = cellsOf (ds ++ [x]) := by simp [cellsOf]
theorem refFromInt_any (n : Int) (h1 : -9223372036854775808 ≤ n) (h2 : n ≤ 9223372036854775807) (w : World) :
    Calls Tryz.prog 20 #[.int .i64 n] w fun e w' => (∃ v, e = .returned v ∧ NumF w.heap.size w' v n) ∧ Below w.heap.size w w' := by
  obtain ⟨i0, hi, hz0, hz1, hz2⟩ := info_parts Tryz.infoU
  have hd4 : (dig n.natAbs).length ≤ 4 := (length_dig_le _ 4).2 (by show n.natAbs < 18446744073709551616; omega)
  have hw2 := fun W s (hl : Lim W s (dig n.natAbs)) => refMake_any (decide (n < 0)) s _ W hl
  rw [num_sign] at hw2
  have HW2 := Lib.hid hw2
  clear hw2
  have hz := (Below.refl w.heap.size w).alloc (Nat.le_refl _) (.cells #[.bool false, .slice none 0 0] 24)
  have x4 := Bx.new w (.bool false) (.slice none 0 0)
  have e2 : n < 0 → IntKind.u64.wrap (-IntKind.u64.wrap n) = ((n.natAbs : Nat) : Int) := fun h => by rw [IntKind.wrap_u64, IntKind.wrap_u64]; omega
  have e3 : 0 ≤ n → n = ((n.natAbs : Nat) : Int) := fun h => by omega
  have E2 := Lib.hid e2
  have E3 := Lib.hid e3
  have HD4 := Lib.hid hd4
  have hna : n.natAbs < 18446744073709551616 := by omega
  clear e2 e3 hd4
  rcases Int.lt_or_le n 0 with h0 | h0
  · have eb : decide (n < 0) = true := decide_eq_true h0
    rw [eb] at HW2
    have EB := Lib.hid eb
    clear eb
    go_enter Tryz.func20, Tryz.ntmps20
    go_wp2
    go_loopw [3, 4] (fun v3 v4 wr => FIRel n.natAbs w wr v3 v4) (fun v3 _ _ => (intOf v3).toNat)
    case atStart => exact ⟨n.natAbs, [], by rw [← E2.out h0], hna, rfl, World.ownsRow_nil _ _ _ _, hz, x4⟩
    case round =>
      obtain ⟨m, ds, rfl, hm, hds, hrow, hB, y4⟩ := hrel
      have HDS := Lib.hid hds
      clear hds
      rcases Nat.eq_zero_or_pos m with hm0 | hm0
      · subst hm0
        have hD : dig n.natAbs = ds := by rw [HDS.out, dig_zero, List.append_nil]
        have hl : Lim wr u4 ds := Lim.of_owns hrow (by rw [← hD]; have := HD4.out; omega)
        have hf := Fr.of_owns hrow
        rw [← hD] at hl
        obtain ⟨a3, c3, rfl⟩ := lim_slice hl
        clear hrow hD
        go_wp2_with (go_at_call 64; refine (HW2.out _ _ hl).mono ?_; rintro e w3 ⟨rfl, hb3⟩; have hB3 := hB.trans (hb3.mono hB.size); have v4 := y4.on hb3; obtain ⟨p4, p4'⟩ := v4.cells; obtain ⟨f4, f4'⟩ := v4.free)
        obtain ⟨k4, k4'⟩ := (v4.put (.bool true) (.slice a3 (dig n.natAbs).length c3)).cells
        have hlf : LimF (w.heap.size + 1) wr (.slice a3 (dig n.natAbs).length c3) (dig n.natAbs) := ⟨hl, hf⟩
        have hl3 := ((hlf.below hb3).put (B' := w.heap.size) (Nat.lt_succ_self _) (.bool true) (.slice a3 (dig n.natAbs).length c3)).mono (Nat.le_succ _)
        exact bodyPost_ret (v := .agg #[.bool true, .slice a3 (dig n.natAbs).length c3]) (by simp [results, Tryz.results20, go_sem, k4, k4']) rfl ⟨⟨_, rfl, _, by rw [EB.out], hl3⟩, Below.put hB3 (Nat.le_refl _) _ _⟩
      · have hm1 : (0 : Int) < (m : Int) := by omega
        have hlen : ds.length ≤ 4 := by have := HD4.out; rw [HDS.out, List.length_append] at this; omega
        have eX : cellsOf ds ++ [Value.int .u16 ((m : Int) % 65536)] = cellsOf (ds ++ [m % 65536]) := by rw [← cellsOf_snoc]; simp
        have HE := Lib.hid eX
        have hN : dig n.natAbs = (ds ++ [m % 65536]) ++ dig (m / 65536) := by rw [HDS.out, dig_pos (show m ≠ 0 by omega)]; simp
        have HN := Lib.hid hN
        have hmi : (m : Int) < 18446744073709551616 := by omega
        clear eX hN
        go_wp2_with (at_builtin; refine wpList_append_own _ rfl _ _ 22 rfl (w.heap.size + 1) 59 i0 (.int .u16 0) 1 2 Tryz.underlying22 hi hz0 hz1 hz2 rfl (by decide) _ _ _ rfl (hrow.alloc _) ⟨wr.heap.size, 0, none⟩ 1 1 [.int .u16 ((m : Int) % 65536)] rfl rfl (cell_one_new _ _ _) (by simp [Value.oneCell']) (by unfold maxLen; omega) (by omega) (by simp; have := y4.lt; omega) ?_; intro v' w2 hrow2 hgrow _)
        rw [HE.out] at hrow2
        have hne : u4.ownBlock ≠ some w.heap.size := fun e => by have := (hrow.lt _ e).1; omega
        have y42 : Bx w2 w.heap.size (.bool false) (.slice none 0 0) := (hgrow.block w.heap.size ((y4.alloc _).lt) (fun e => hne e.symm)).trans (y4.alloc _)
        have hB2 := (hB.alloc hB.size (.cells #[.int .u16 ((m : Int) % 65536)] 59)).grown hgrow (by simp; have := hB.size; omega) (fun k e => by have := (hrow.lt k e).1; omega)
        go_roundw
        case rel => exact ⟨m / 65536, ds ++ [m % 65536], by go_num, by omega, HN.out, by simpa using hrow2, hB2, y42⟩
        case measure => simp [intOf]; omega
  · go_enter Tryz.func20, Tryz.ntmps20
    go_wp2
    go_loopw [3, 4] (fun v3 v4 wr => FIRel n.natAbs w wr v3 v4) (fun v3 _ _ => (intOf v3).toNat)
    case atStart => exact ⟨n.natAbs, [], by rw [← E3.out h0], hna, rfl, World.ownsRow_nil _ _ _ _, hz, x4⟩
    case round =>
      obtain ⟨m, ds, rfl, hm, hds, hrow, hB, y4⟩ := hrel
      have HDS := Lib.hid hds
      clear hds
      rcases Nat.eq_zero_or_pos m with hm0 | hm0
      · subst hm0
        have hD : dig n.natAbs = ds := by rw [HDS.out, dig_zero, List.append_nil]
        have hl : Lim wr u4 ds := Lim.of_owns hrow (by rw [← hD]; have := HD4.out; omega)
        have hf := Fr.of_owns hrow
        rw [← hD] at hl
        obtain ⟨a3, c3, rfl⟩ := lim_slice hl
        clear hrow hD
        go_wp2_with (go_at_call 64; refine (HW2.out _ _ hl).mono ?_; rintro e w3 ⟨rfl, hb3⟩; have hB3 := hB.trans (hb3.mono hB.size); have v4 := y4.on hb3; obtain ⟨p4, p4'⟩ := v4.cells; obtain ⟨f4, f4'⟩ := v4.free)
        obtain ⟨k4, k4'⟩ := (v4.put (.bool (decide (n < 0))) (.slice a3 (dig n.natAbs).length c3)).cells
        have hlf : LimF (w.heap.size + 1) wr (.slice a3 (dig n.natAbs).length c3) (dig n.natAbs) := ⟨hl, hf⟩
        have hl3 := ((hlf.below hb3).put (B' := w.heap.size) (Nat.lt_succ_self _) (.bool (decide (n < 0))) (.slice a3 (dig n.natAbs).length c3)).mono (Nat.le_succ _)
        exact bodyPost_ret (v := .agg #[.bool (decide (n < 0)), .slice a3 (dig n.natAbs).length c3]) (by simp [results, Tryz.results20, go_sem, k4, k4']) rfl ⟨⟨_, rfl, _, rfl, hl3⟩, Below.put hB3 (Nat.le_refl _) _ _⟩
      · have hm1 : (0 : Int) < (m : Int) := by omega
        have hlen : ds.length ≤ 4 := by have := HD4.out; rw [HDS.out, List.length_append] at this; omega
        have eX : cellsOf ds ++ [Value.int .u16 ((m : Int) % 65536)] = cellsOf (ds ++ [m % 65536]) := by rw [← cellsOf_snoc]; simp
        have HE := Lib.hid eX
        have hN : dig n.natAbs = (ds ++ [m % 65536]) ++ dig (m / 65536) := by rw [HDS.out, dig_pos (show m ≠ 0 by omega)]; simp
        have HN := Lib.hid hN
        have hmi : (m : Int) < 18446744073709551616 := by omega
        clear eX hN
        go_wp2_with (at_builtin; refine wpList_append_own _ rfl _ _ 22 rfl (w.heap.size + 1) 59 i0 (.int .u16 0) 1 2 Tryz.underlying22 hi hz0 hz1 hz2 rfl (by decide) _ _ _ rfl (hrow.alloc _) ⟨wr.heap.size, 0, none⟩ 1 1 [.int .u16 ((m : Int) % 65536)] rfl rfl (cell_one_new _ _ _) (by simp [Value.oneCell']) (by unfold maxLen; omega) (by omega) (by simp; have := y4.lt; omega) ?_; intro v' w2 hrow2 hgrow _)
        rw [HE.out] at hrow2
        have hne : u4.ownBlock ≠ some w.heap.size := fun e => by have := (hrow.lt _ e).1; omega
        have y42 : Bx w2 w.heap.size (.bool false) (.slice none 0 0) := (hgrow.block w.heap.size ((y4.alloc _).lt) (fun e => hne e.symm)).trans (y4.alloc _)
        have hB2 := (hB.alloc hB.size (.cells #[.int .u16 ((m : Int) % 65536)] 59)).grown hgrow (by simp; have := hB.size; omega) (fun k e => by have := (hrow.lt k e).1; omega)
        go_roundw
        case rel => exact ⟨m / 65536, ds ++ [m % 65536], by go_num, by omega, HN.out, by simpa using hrow2, hB2, y42⟩
        case measure => simp [intOf]; omega
theorem num_eq_iff (a b : Int) : (decide (a < 0) = decide (b < 0) ∧ dig a.natAbs = dig b.natAbs) ↔ a = b := by
  constructor
  · rintro ⟨h1, h2⟩
    have h3 := congrArg val h2
    rw [val_dig, val_dig] at h3
    have h4 := decide_eq_decide.1 h1
    omega
  · rintro rfl; exact ⟨rfl, rfl⟩
theorem refSame_num (va vb : Value) (a b : Int) (w : World) (h : Num w va a) (g : Num w vb b) :
  Calls Tryz.prog 10 #[va, vb] w fun e w' => e = .returned (.bool (decide (a = b))) ∧ Below w.heap.size w w' := by
 obtain ⟨s, rfl, h⟩ := h
 obtain ⟨s', rfl, g⟩ := g
 have := refSame_any (decide (a < 0)) s _ (decide (b < 0)) s' _ w h g
 rwa [show decide (decide (a < 0) = decide (b < 0) ∧ dig a.natAbs = dig b.natAbs) = decide (a = b) from decide_eq_decide.2 (num_eq_iff a b)] at this
end Go.Proofs.YtmbcnfogjncdaaaGreat
namespace Wh
theorem val_put {l : List Nat} {i x : Nat} (h : i < l.length) : val (l.set i x) + 65536 ^ i * l[i]?.getD 0 = val l + 65536 ^ i * x := by
 induction l generalizing i with
 | nil => simp at h
 | cons y l ih =>
  cases i with
  | zero => simp [val_cons]; omega
  | succ i =>
   have := ih (i := i) (by simpa using h)
   simp only [List.set_cons_succ, val_cons, Nat.pow_succ, List.getElem?_cons_succ] at this ⊢
   have e1 : 65536 * (65536 ^ i * x) = 65536 ^ i * 65536 * x := by rw [← Nat.mul_assoc, Nat.mul_comm 65536]
   have e2 : 65536 * (65536 ^ i * l[i]?.getD 0) = 65536 ^ i * 65536 * l[i]?.getD 0 := by rw [← Nat.mul_assoc, Nat.mul_comm 65536]
   omega
theorem val_take_next (l : List Nat) (k : Nat) : val (l.take (k + 1)) = val (l.take k) + 65536 ^ k * (l[k]?.getD 0) := by
 rcases Nat.lt_or_ge k l.length with h | h
 · exact val_take_succ h
 · rw [List.take_of_length_le (by omega), List.take_of_length_le h, List.getElem?_eq_none h]; simp
theorem val_drop_next (l : List Nat) (k : Nat) : val (l.drop k) = l[k]?.getD 0 + 65536 * val (l.drop (k + 1)) := by
 rcases Nat.lt_or_ge k l.length with h | h
 · exact val_drop_succ h
 · rw [List.drop_of_length_le (by omega), List.drop_of_length_le (by omega), List.getElem?_eq_none h]; simp [val]
theorem val_snoc (l : List Nat) (x : Nat) : val (l ++ [x]) = val l + 65536 ^ l.length * x := by
 rw [val_append]; simp [val]
theorem dig_of_val {l : List Nat} {n : Nat} (hl : Lm l) (hv : val l = n) (h : l.length = 0 ∨ 65536 ^ (l.length - 1) ≤ n) : l = dig n := by
  refine val_inj hl (dig_Lm n) ?_ (by rw [hv, val_dig])
  have h1 : (dig n).length ≤ l.length := (length_dig_le _ _).2 (by rw [← hv]; exact val_lt hl)
  rcases h with h | h
  · omega
  · rcases Nat.eq_zero_or_pos l.length with h0 | h0
    · omega
    · have : ¬ (dig n).length ≤ l.length - 1 := fun e => by have := (length_dig_le _ _).1 e; omega
      omega
theorem trim_eq {l : List Nat} (hl : Lm l) (n : Nat) (hn : n ≤ l.length) (h0 : ∀ j, n ≤ j → j < l.length → l[j]?.getD 0 = 0) (h1 : n = 0 ∨ l[n - 1]?.getD 0 ≠ 0) : l.take n = dig (val l) := by
  have hv : val (l.take n) = val l := by
    rw [val_take_drop l n]
    have : val (l.drop n) = 0 := val_zero_iff.2 fun x hx => by
      obtain ⟨j, hj, rfl⟩ := List.mem_iff_getElem.1 hx
      have := h0 (n + j) (by omega) (by simp at hj; omega)
      rw [List.getElem_drop]
      rw [getD_lt_length (by simp at hj; omega)] at this
      exact this
    rw [this]; simp
  refine dig_of_val (hl.take n) hv ?_
  rw [List.length_take, Nat.min_eq_left hn]
  rcases h1 with h1 | h1
  · exact .inl h1
  · rcases Nat.eq_zero_or_pos n with h2 | h2
    · exact .inl h2
    · refine .inr ?_
      rw [← hv]
      obtain ⟨m, rfl⟩ : ∃ m, n = m + 1 := ⟨n - 1, by omega⟩
      rw [val_take_next]
      simp only [Nat.add_sub_cancel] at h1 ⊢
      have : 65536 ^ m * 1 ≤ 65536 ^ m * l[m]?.getD 0 := Nat.mul_le_mul_left _ (by omega)
      omega
theorem plus_step {a b l : List Nat} {i n : Nat} (hi : l.length = i) (h : val (a.take i) + val (b.take i) = val l + 65536 ^ i * n) :
  val (a.take (i + 1)) + val (b.take (i + 1)) = val (l ++ [(n + a[i]?.getD 0 + b[i]?.getD 0) % 65536]) + 65536 ^ (i + 1) * ((n + a[i]?.getD 0 + b[i]?.getD 0) / 65536) := by
 rw [val_take_next, val_take_next, val_snoc, hi, Nat.pow_succ]
 generalize a[i]?.getD 0 = x
 generalize b[i]?.getD 0 = y
 have e := Nat.mod_add_div (n + x + y) 65536
 generalize (n + x + y) % 65536 = r at e ⊢
 generalize (n + x + y) / 65536 = q at e ⊢
 have e2 : 65536 ^ i * (r + 65536 * q) = 65536 ^ i * (n + x + y) := by rw [e]
 generalize 65536 ^ i = P at h e2 ⊢
 rw [Nat.mul_assoc P 65536 q]
 rw [Nat.mul_add] at e2
 rw [Nat.mul_add, Nat.mul_add] at e2
 omega
theorem plus_top {a b l : List Nat} {i n : Nat} (h : val (a.take i) + val (b.take i) = val l + 65536 ^ i * n) (hc : i < a.length ∧ a = dig (val a) ∨ i < b.length ∧ b = dig (val b) ∨ 0 < n) : 65536 ^ i ≤ val a + val b := by
  rcases hc with ⟨h1, h2⟩ | ⟨h1, h2⟩ | h1
  · rw [h2] at h1
    have := pow_le_of_length h1
    omega
  · rw [h2] at h1
    have := pow_le_of_length h1
    omega
  · have h3 := val_take_drop a i
    have h4 := val_take_drop b i
    have : 65536 ^ i * 1 ≤ 65536 ^ i * n := Nat.mul_le_mul_left _ h1
    omega
theorem minus_step {a b l : List Nat} {i w : Nat} (hw : w ≤ 1) (ha : a[i]?.getD 0 < 65536) (hb : b[i]?.getD 0 < 65536) (hi : l.length = i) (h : val (a.take i) + 65536 ^ i * w = val (b.take i) + val l) :
  val (a.take (i + 1)) + 65536 ^ (i + 1) * (1 - (65536 + a[i]?.getD 0 - w - b[i]?.getD 0) / 65536) = val (b.take (i + 1)) + val (l ++ [(65536 + a[i]?.getD 0 - w - b[i]?.getD 0) % 65536]) ∧ 1 - (65536 + a[i]?.getD 0 - w - b[i]?.getD 0) / 65536 ≤ 1 := by
 rw [val_take_next, val_take_next, val_snoc, hi, Nat.pow_succ]
 generalize a[i]?.getD 0 = x at ha ⊢
 generalize b[i]?.getD 0 = y at hb ⊢
 refine ⟨?_, by omega⟩
 have e : x + 65536 * (1 - (65536 + x - w - y) / 65536) = y + w + (65536 + x - w - y) % 65536 := by omega
 generalize 1 - (65536 + x - w - y) / 65536 = q at e ⊢
 generalize (65536 + x - w - y) % 65536 = r at e ⊢
 have e2 : 65536 ^ i * (x + 65536 * q) = 65536 ^ i * (y + w + r) := by rw [e]
 generalize 65536 ^ i = P at h e2 ⊢
 rw [Nat.mul_assoc P 65536 q]
 rw [Nat.mul_add, Nat.mul_add, Nat.mul_add] at e2
 omega
theorem minus_end {a b l : List Nat} {w : Nat} (hw : w ≤ 1) (hle : val b ≤ val a) (hb : b.length ≤ a.length) (hl : l.length = a.length) (hlm : Lm l) (h : val (a.take a.length) + 65536 ^ a.length * w = val (b.take a.length) + val l) : val l = val a - val b := by
  rw [List.take_of_length_le (Nat.le_refl _), List.take_of_length_le hb] at h
  have := val_lt hlm
  rw [hl] at this
  rcases Nat.eq_zero_or_pos w with h0 | h0
  · subst h0; omega
  · have : w = 1 := by omega
    subst this; omega
theorem down_step {a o : List Nat} {i d n : Nat} (hi : i < o.length) (h : val (a.drop (i + 1)) = d * val (o.drop (i + 1)) + n) :
  val (a.drop i) = d * val ((o.set i ((n * 65536 + a[i]?.getD 0) / d)).drop i) + (n * 65536 + a[i]?.getD 0) % d := by
 rw [val_drop_next a, h, val_drop_next (o.set i _) i, List.getElem?_set_self (by simpa using hi), List.drop_set_of_lt (by omega)]
 generalize a[i]?.getD 0 = x
 generalize val (o.drop (i + 1)) = v
 have e := Nat.div_add_mod (n * 65536 + x) d
 simp only [Option.getD_some]
 rw [Nat.mul_add d, show d * (65536 * v) = 65536 * (d * v) from by rw [← Nat.mul_assoc, ← Nat.mul_assoc, Nat.mul_comm d]]
 generalize d * v = u
 omega
theorem down_end {a o : List Nat} {d n : Nat} (hn : n < d) (h : val (a.drop 0) = d * val (o.drop 0) + n) : val o = val a / d ∧ n = val a % d := by
 simp only [List.drop_zero] at h
 rw [h]
 exact ⟨by rw [Nat.mul_add_div (by omega), Nat.div_eq_of_lt hn]; rfl, by rw [Nat.mul_add_mod, Nat.mod_eq_of_lt hn]⟩
theorem times_step {a b o : List Nat} {i k n V : Nat} (hk : i + k < o.length)
  (h : val o + 65536 ^ (i + k) * n = V + 65536 ^ i * (a[i]?.getD 0 * val (b.take k))) :
  val (o.set (i + k) ((n + a[i]?.getD 0 * b[k]?.getD 0 + o[i + k]?.getD 0) % 65536)) + 65536 ^ (i + (k + 1)) * ((n + a[i]?.getD 0 * b[k]?.getD 0 + o[i + k]?.getD 0) / 65536) = V + 65536 ^ i * (a[i]?.getD 0 * val (b.take (k + 1))) := by
 have e1 := val_put (l := o) (i := i + k) (x := (n + a[i]?.getD 0 * b[k]?.getD 0 + o[i + k]?.getD 0) % 65536) hk
 rw [val_take_next]
 generalize a[i]?.getD 0 = x at h e1 ⊢
 generalize b[k]?.getD 0 = y at e1 ⊢
 generalize o[i + k]?.getD 0 = z at e1 ⊢
 have e := Nat.mod_add_div (n + x * y + z) 65536
 generalize (n + x * y + z) % 65536 = r at e e1 ⊢
 generalize (n + x * y + z) / 65536 = q at e ⊢
 have e2 : 65536 ^ (i + k) * (r + 65536 * q) = 65536 ^ (i + k) * (n + x * y + z) := by rw [e]
 rw [Nat.mul_add x, Nat.mul_add (65536 ^ i), ← Nat.add_assoc V, ← h, ← Nat.add_assoc i k 1, Nat.pow_succ, Nat.mul_assoc _ 65536 q]
 rw [Nat.mul_add, Nat.mul_add, Nat.mul_add] at e2
 have e3 : 65536 ^ i * (x * (65536 ^ k * y)) = 65536 ^ (i + k) * (x * y) := by
  rw [Nat.pow_add, Nat.mul_assoc, ← Nat.mul_assoc x, Nat.mul_comm x, Nat.mul_assoc (65536 ^ k)]
 rw [e3]
 omega
theorem times_bound {n x y z : Nat} (hn : n < 65536) (hx : x < 65536) (hy : y < 65536) (hz : z < 65536) : n + x * y + z < 4294967296 := by
 have : x * y ≤ 65535 * 65535 := Nat.mul_le_mul (by omega) (by omega)
 omega
theorem half_end {a o : List Nat} {n : Nat} (h : val (a.drop 0) = 2 * val (o.drop 0) + n % 2) : val o = val a / 2 := by
 simp only [List.drop_zero] at h
 omega
end Wh
namespace Go.Proofs.YtmbcnfogjncdaaaGreat
open Go.RowKit Wh
def TrimRel (l : List Nat) (w : World) (n : Value) (wr : World) : Prop := ∃ k : Nat, k ≤ l.length ∧ n = .int .i64 (k : Int) ∧ (∀ j, k ≤ j → j < l.length → l[j]?.getD 0 = 0) ∧ Below w.heap.size w wr
theorem Fr.upto {B : Nat} {W : World} {a : Option Addr} {n k cap : Nat} (h : Fr B W (.slice a n cap)) (hk : k ≤ n) : Fr B W (.slice a k cap) := by
  rcases h with h | ⟨g, n', cap', cur, T, h1, h2, h3, h4⟩
  · injection h with e1 e2 e3
    subst e1 e2 e3
    obtain rfl : k = 0 := by omega
    exact .inl rfl
  · injection h1 with e1 e2 e3
    subst e1 e2 e3
    exact .inr ⟨g, k, _, cur, T, rfl, h2, h3, h4⟩
theorem refTrim_any (sv : Value) (l : List Nat) (hl : Lm l) (w : World) (h : Lim w sv l) :
    Calls Tryz.prog 62 #[sv] w fun e w' => (∃ v', e = .returned v' ∧ Lim w' v' (dig (val l)) ∧ ∀ B, Fr B w sv → Fr B w' v') ∧ Below w.heap.size w w' := by
  obtain ⟨a, cap, rfl, hlc, ⟨hcm, hcl, hcn⟩, hcs⟩ := id h
  have HL := Lib.hid h
  clear hcn hcs h
  go_enter Tryz.func62, Tryz.ntmps62
  go_wp2
  go_loopw [3] (fun n wr => TrimRel l w n wr) (fun n _ => (intOf n).toNat)
  case atStart => exact ⟨l.length, Nat.le_refl _, rfl, fun j h1 h2 => by omega, Below.refl _ _⟩
  case round =>
    obtain ⟨k, hk, rfl, hz, hB⟩ := hrel
    have HZ := Lib.hid hz
    clear hz
    have hlr := HL.out.below hB (Nat.le_refl _)
    rcases Nat.eq_zero_or_pos k with h0 | h0
    · subst h0
      have HT := Lib.hid (trim_eq hl 0 (by omega) HZ.out (.inl rfl))
      have HLR := Lib.hid hlr
      clear hlr
      go_wp2
      go_ret
      refine ⟨⟨_, rfl, ?_, fun B hB' => ?_⟩, hB⟩
      · rw [← HT.out]
        exact HLR.out.take (by omega)
      · exact (hB'.below hB).upto (Nat.zero_le _)
    · have hlt : 0 < (k : Int) := by omega
      obtain ⟨b, off, rfl⟩ := lim_addr hlr (by omega)
      have hc := cell_of_lim hlr (k - 1) (by omega)
      have HLR := Lib.hid hlr
      clear hlr
      by_cases hu : l[k - 1]?.getD 0 = 0
      · rw [hu] at hc
        have HZ2 : Hid (∀ j, k - 1 ≤ j → j < l.length → l[j]?.getD 0 = 0) := Lib.hid (fun j h1 h2 => by
          by_cases e : j = k - 1
          · subst e; exact hu
          · exact HZ.out j (by omega) h2)
        clear hu
        go_wp2
        go_roundw
        case rel => exact ⟨k - 1, by omega, by go_num, HZ2.out, hB⟩
        case measure => simp [intOf]; omega
      · have hu' : (((l[k - 1]?.getD 0 : Nat) : Int) == 0) = false := by rw [beq_eq_false_iff_ne]; omega
        have HT := Lib.hid (trim_eq hl k hk HZ.out (.inr hu))
        clear hu
        go_wp2
        go_ret
        refine ⟨⟨_, rfl, ?_, fun B hB' => (hB'.below hB).upto hk⟩, hB⟩
        rw [← HT.out]
        exact HLR.out.take hk
end Go.Proofs.YtmbcnfogjncdaaaGreat
namespace Go.Proofs.YtmbcnfogjncdaaaGreat
open Go.RowKit Wh
attribute [local go_sem] Oper.semAt_some
theorem zeros_made (n : Nat) : (madeCells (Value.int .u16 0).cells (n * 1)).toList = cellsOf (List.replicate n 0) := by
  have e : (Value.int .u16 0).cells = #[.int .u16 0] := rfl
  rw [e, Nat.mul_one]
  unfold madeCells cellsOf
  apply List.ext_getElem
  · simp
  · intro i h1 h2
    simp [Nat.mod_one]
theorem Lm.zeros (n : Nat) : Lm (List.replicate n 0) := fun x hx => by rw [List.eq_of_mem_replicate hx]; decide
theorem val_zeros (n : Nat) : val (List.replicate n 0) = 0 := val_replicate_zero n
theorem one_limb (w : World) (r : Nat) : Lim (w.alloc (.cells #[.int .u16 (r : Int)] 59)) (.slice (some ⟨w.heap.size, 0, none⟩) 1 1) [r] ∧
  ∀ B, B ≤ w.heap.size → Fr B (w.alloc (.cells #[.int .u16 (r : Int)] 59)) (.slice (some ⟨w.heap.size, 0, none⟩) 1 1) := by
 refine ⟨⟨some ⟨w.heap.size, 0, none⟩, 1, rfl, by simp, ⟨by omega, by simp, fun e => by cases e⟩, .inr ⟨w.heap.size, 0, rfl, fun j hj => ?_⟩⟩, fun B hB => .inr ⟨w.heap.size, 1, 1, _, _, rfl, hB, World.alloc_heap_new w _, rfl⟩⟩
 have : j = 0 := by simpa using hj
 subst this
 simp
def ShortRel (l : List Nat) (d G : Nat) (w : World) (n i : Value) (wr : World) : Prop :=
 ∃ (k : Nat) (o : List Nat) (r : Nat), k ≤ l.length ∧ i = .int .i64 ((k : Int) - 1) ∧ n = .int .i64 (r : Int) ∧ r < d ∧ o.length = l.length ∧ Lm o ∧ val (l.drop k) = d * val (o.drop k) + r ∧
  wr.ownsRow w.heap.size 59 1 (.slice (some ⟨G, 0, none⟩) l.length l.length) l.length (cellsOf o) ∧ Below w.heap.size w wr
theorem refshort_any (sv : Value) (l : List Nat) (hl : Lm l) (hn : l.length ≤ 16384) (d : Nat) (hd : 0 < d) (hd2 : d < 65536) (w : World) (h : Lim w sv l) :
    Calls Tryz.prog 134 #[sv, .int .i64 (d : Int)] w fun e w' => (∃ vq vr, e = .returned (.tuple #[vq, vr]) ∧ LimF w.heap.size w' vq (dig (val l / d)) ∧ LimF w.heap.size w' vr (dig (val l % d))) ∧ Below w.heap.size w w' := by
  obtain ⟨i0, hi, hz0, hz1, hz2⟩ := info_parts Tryz.infoU
  obtain ⟨a, cap, rfl, hlc, ⟨hcm, hcl, hcn⟩, hcs⟩ := id h
  have HL := Lib.hid h
  clear hcn hcs h
  have hn' : (l.length : Int) ≤ 16384 := by omega
  have hd' : (0 : Int) < (d : Int) := by omega
  go_enter Tryz.func134, Tryz.ntmps134
  go_wp2_with (at_make; refine wpList_make_full _ rfl _ _ 22 rfl w.heap.size 59 i0 (.int .u16 0) 1 Tryz.underlying22 hi hz0 hz1 _ _ _ _ l.length rfl rfl rfl rfl (by rw [hz2]; omega) (by unfold maxLen; omega) (Nat.le_refl _) ?_; intro w1 hown hgrow)
  rw [zeros_made] at hown
  have hB1 := (Below.refl w.heap.size w).grown hgrow (Nat.le_refl _) (fun k e => by cases e)
  clear hgrow
  go_loopw [7, 8] (fun n i wr => ShortRel l d w.heap.size w n i wr) (fun _ i _ => (intOf i + 1).toNat)
  case atStart => exact ⟨l.length, List.replicate l.length 0, 0, Nat.le_refl _, rfl, rfl, hd, by simp, Lm.zeros _, by simp, hown, hB1⟩
  case round =>
    clear hown hB1
    obtain ⟨k, o, r, hk, rfl, rfl, hr, hol, hom, hv, hrow, hB⟩ := hrel
    have HV := Lib.hid hv
    have HO := Lib.hid hol
    clear hv hol
    rcases Nat.eq_zero_or_pos k with h0 | h0
    · subst h0
      have hend := down_end hr HV.out
      have HE1 := Lib.hid hend.1
      have HE2 := Lib.hid hend.2
      have hlim : Lim wr (.slice (some ⟨w.heap.size, 0, none⟩) l.length l.length) o := Lim.of_owns hrow (by rw [HO.out]; omega)
      have hfr := Fr.of_owns hrow
      clear hend hrow
      go_wp2_with fail
      refine (refTrim_any _ o hom _ hlim).mono ?_
      rintro e w2 ⟨⟨vq, rfl, hq, hqf⟩, hb2⟩
      go_wp2_with fail
      obtain ⟨h1, h2⟩ := one_limb w2 r
      refine (refTrim_any _ [r] (.cons (by omega) .nil) _ h1).mono ?_
      rintro e w3 ⟨⟨vr, rfl, hr', hrf⟩, hb3⟩
      have hal := (Below.refl w2.heap.size w2).alloc (Nat.le_refl _) (.cells #[.int .u16 (r : Int)] 59)
      have hb23 := hal.trans (hb3.mono hal.size)
      have hB2 := hB.trans (hb2.mono hB.size)
      have HQ : Hid (LimF w.heap.size w3 vq (dig (val l / d))) := Lib.hid (by rw [← HE1.out]; exact LimF.below ⟨hq, hqf _ hfr⟩ hb23)
      have HR : Hid (LimF w.heap.size w3 vr (dig (val l % d))) := Lib.hid (by
        rw [← HE2.out]
        have e : val [r] = r := by simp [val]
        rw [e] at hr'
        exact ⟨hr', hrf _ (h2 _ hB2.size)⟩)
      have HB3 := Lib.hid (hB2.trans (hb23.mono hB2.size))
      clear hq hqf hfr hr' hrf hb23 hB2 hal h1 h2 hb2 hb3 hlim
      go_wp2
      go_ret2
      exact ⟨⟨_, _, rfl, HQ.out, HR.out⟩, HB3.out⟩
    · have hlr := HL.out.below hB (Nat.le_refl _)
      obtain ⟨b, off, rfl⟩ := lim_addr hlr (by omega)
      have hc := cell_of_lim hlr (k - 1) (by omega)
      have hu := hl.getD (k - 1)
      have HST := Lib.hid (down_step (a := l) (o := o) (i := k - 1) (d := d) (n := r) (by have := HO.out; omega) (by rw [show k - 1 + 1 = k by omega]; exact HV.out))
      obtain ⟨u, hu'⟩ : ∃ u : Nat, u = l[k - 1]?.getD 0 := ⟨_, rfl⟩
      rw [← hu'] at hc hu HST
      clear hu' hlr
      have hfro := hrow.frozenAt (k - 1)
      have hcell := hrow.cellAt (k - 1) (by omega)
      rw [cellsOf_get _ _ (by rw [HO.out]; omega)] at hcell
      have HR := Lib.hid hrow
      clear hrow
      have i1 : (1 : Int) ≤ (k : Int) := by omega
      have i2 : (0 : Int) ≤ (k : Int) - 1 := by omega
      have i3 : ((k : Int) - 1) < (l.length : Int) := by omega
      have i4 : ((k : Int) - 1).toNat = k - 1 := by omega
      have q1 : (0 : Int) ≤ (r : Int) * 65536 + (u : Int) := by omega
      have q2 : (r : Int) * 65536 + (u : Int) ≤ 4294967295 := by omega
      have hq : (r * 65536 + u) / d < 65536 := Nat.div_lt_of_lt_mul (by have : r + 1 ≤ d := hr; have := Nat.mul_le_mul_right 65536 this; omega)
      have q3 : IntKind.u16.wrap (((r : Int) * 65536 + (u : Int)) / (d : Int)) = (((r * 65536 + u) / d : Nat) : Int) := by
        rw [show ((r : Int) * 65536 + (u : Int)) / (d : Int) = (((r * 65536 + u) / d : Nat) : Int) from by simp, wrap_u16_nat, Nat.mod_eq_of_lt hq]
      clear hq
      have w1 : IntKind.i64.wrap ((r : Int) * 65536) = (r : Int) * 65536 := IntWalk.i64_in _ (by omega)
      have w2 : IntKind.i64.wrap ((r : Int) * 65536 + (u : Int)) = (r : Int) * 65536 + (u : Int) := IntWalk.i64_in _ (by omega)
      go_wp2
      have hx : ((r : Int) * 65536 + (u : Int)) / (d : Int) = (((r * 65536 + u) / d : Nat) : Int) := by simp
      have hy : ((r : Int) * 65536 + (u : Int)) % (d : Int) = (((r * 65536 + u) % d : Nat) : Int) := by simp
      have hq : (r * 65536 + u) / d < 65536 := Nat.div_lt_of_lt_mul (by have : r + 1 ≤ d := hr; have := Nat.mul_le_mul_right 65536 this; omega)
      have hs := (HR.out.stored (k - 1) (.int .u16 (((r * 65536 + u) / d : Nat) : Int))).1
      rw [cellsOf_set] at hs
      rw [hx, hy]
      refine ⟨⟨k - 1, _, _, by omega, by rw [show ((k - 1 : Nat) : Int) = (k : Int) - 1 by omega], rfl, Nat.mod_lt _ hd, by rw [List.length_set]; exact HO.out, hom.set _ hq, HST.out, hs, hB.setCell (Nat.le_refl _) _⟩, by simp [intOf]; omega⟩
end Go.Proofs.YtmbcnfogjncdaaaGreat
