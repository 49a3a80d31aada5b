/- A part of the proofs about fractions. -/
import Derived.BigQuiet
import Derived.Deep.QuietTactic
import Derived.Laws.OwnMore
import Derived.OwnWalk
import Derived.Test.YtmbcnfogjncdaaaGreatQFl11
set_option maxRecDepth 100000
set_option maxHeartbeats 4000000
namespace Go.Proofs.YtmbcnfogjncdaaaGreat
open Go.RowKit Wh
attribute [local go_sem] Oper.semAt_some
def HalfRel (l : List Nat) (G : Nat) (w : World) (n i : Value) (wr : World) : Prop :=
 ∃ (k : Nat) (o : List Nat) (r : Nat), k ≤ l.length ∧ i = .int .i64 ((k : Int) - 1) ∧ n = .int .i64 (r : Int) ∧ r < 131072 ∧ o.length = l.length ∧ Lm o ∧ val (l.drop k) = 2 * val (o.drop k) + r % 2 ∧
  wr.ownsRow w.heap.size 59 1 (.slice (some ⟨G, 0, none⟩) l.length l.length) l.length (cellsOf o) ∧ Below w.heap.size w wr
theorem refHalf_any (sv : Value) (l : List Nat) (hl : Lm l) (hn : l.length ≤ 16384) (w : World) (h : Lim w sv l) :
    Calls Tryz.prog 197 #[sv] w fun e w' => (∃ vq, e = .returned vq ∧ LimF w.heap.size w' vq (dig (val l / 2))) ∧ Below w.heap.size w w' := by
  obtain ⟨i0, hi, hz0, hz1, hz2⟩ := info_parts Tryz.infoU
  obtain ⟨a, cap, rfl, hlc, ⟨hcm, hcl, hcn⟩, hcs⟩ := id h
  have HL := Lib.hid h
  clear hcn hcs h
  have hn' : (l.length : Int) ≤ 16384 := by omega
  go_enter Tryz.func197, Tryz.ntmps197
  go_wp2_with (at_make; refine wpList_make_full _ rfl _ _ 22 rfl w.heap.size 59 i0 (.int .u16 0) 1 Tryz.underlying22 hi hz0 hz1 _ _ _ _ l.length rfl rfl rfl rfl (by rw [hz2]; omega) (by unfold maxLen; omega) (Nat.le_refl _) ?_; intro w1 hown hgrow)
  rw [zeros_made] at hown
  have hB1 := (Below.refl w.heap.size w).grown hgrow (Nat.le_refl _) (fun k e => by cases e)
  clear hgrow
  go_loopw [4, 5] (fun n i wr => HalfRel l w.heap.size w n i wr) (fun _ i _ => (intOf i + 1).toNat)
  case atStart => exact ⟨l.length, List.replicate l.length 0, 0, Nat.le_refl _, rfl, rfl, by omega, by simp, Lm.zeros _, by simp, hown, hB1⟩
  case round =>
    clear hown hB1
    obtain ⟨k, o, r, hk, rfl, rfl, hr, hol, hom, hv, hrow, hB⟩ := hrel
    have HV := Lib.hid hv
    have HO := Lib.hid hol
    clear hv hol
    rcases Nat.eq_zero_or_pos k with h0 | h0
    · subst h0
      have HE1 := Lib.hid (half_end HV.out)
      have hlim : Lim wr (.slice (some ⟨w.heap.size, 0, none⟩) l.length l.length) o := Lim.of_owns hrow (by rw [HO.out]; omega)
      have hfr := Fr.of_owns hrow
      clear hrow
      go_wp2_with fail
      refine (refTrim_any _ o hom _ hlim).mono ?_
      rintro e w2 ⟨⟨vq, rfl, hq, hqf⟩, hb2⟩
      have hB2 := hB.trans (hb2.mono hB.size)
      have HQ : Hid (LimF w.heap.size w2 vq (dig (val l / 2))) := Lib.hid (by rw [← HE1.out]; exact ⟨hq, hqf _ hfr⟩)
      clear hq hqf hfr hb2 hlim
      go_wp2
      go_ret
      exact ⟨⟨_, rfl, HQ.out⟩, hB2⟩
    · have hlr := HL.out.below hB (Nat.le_refl _)
      obtain ⟨b, off, rfl⟩ := lim_addr hlr (by omega)
      have hc := cell_of_lim hlr (k - 1) (by omega)
      have hu := hl.getD (k - 1)
      have HST := Lib.hid (down_step (a := l) (o := o) (i := k - 1) (d := 2) (n := r % 2) (by have := HO.out; omega) (by rw [show k - 1 + 1 = k by omega]; exact HV.out))
      obtain ⟨u, hu'⟩ : ∃ u : Nat, u = l[k - 1]?.getD 0 := ⟨_, rfl⟩
      rw [← hu'] at hc hu HST
      clear hu' hlr
      obtain ⟨m, hm⟩ : ∃ m : Nat, m = r % 2 * 65536 + u := ⟨_, rfl⟩
      rw [← hm] at HST
      have hfro := hrow.frozenAt (k - 1)
      have hcell := hrow.cellAt (k - 1) (by omega)
      rw [cellsOf_get _ _ (by rw [HO.out]; omega)] at hcell
      have HR := Lib.hid hrow
      clear hrow
      have i1 : (1 : Int) ≤ (k : Int) := by omega
      have i2 : (0 : Int) ≤ (k : Int) - 1 := by omega
      have i3 : ((k : Int) - 1) < (l.length : Int) := by omega
      have i4 : ((k : Int) - 1).toNat = k - 1 := by omega
      have hm2 : m < 131072 := by omega
      have q0 : (0 : Int) ≤ (r : Int) := by omega
      have w1 : IntKind.i64.wrap ((r : Int) % 2 * 65536) = (r : Int) % 2 * 65536 := IntWalk.i64_in _ (by omega)
      have w2 : IntKind.i64.wrap ((r : Int) % 2 * 65536 + (u : Int)) = (m : Int) := by rw [IntWalk.i64_in _ (by omega)]; omega
      have q3 : IntKind.u16.wrap ((m : Int) / 2) = ((m / 2 : Nat) : Int) := by
        rw [show (m : Int) / 2 = ((m / 2 : Nat) : Int) from by simp, wrap_u16_nat, Nat.mod_eq_of_lt (by omega)]
      have HM2 := Lib.hid hm2
      have hm3 : (m : Int) < 131072 := by omega
      clear hm hm2
      go_wp2
      have hx : (m : Int) / 2 = ((m / 2 : Nat) : Int) := by simp
      have hq : m / 2 < 65536 := by have := HM2.out; omega
      have hs := (HR.out.stored (k - 1) (.int .u16 ((m / 2 : Nat) : Int))).1
      rw [cellsOf_set] at hs
      try rw [hx]
      refine ⟨⟨k - 1, _, m, by omega, by rw [show ((k - 1 : Nat) : Int) = (k : Int) - 1 by omega], rfl, HM2.out, by rw [List.length_set]; exact HO.out, hom.set _ hq, HST.out, hs, hB.setCell (Nat.le_refl _) _⟩, by simp [intOf]; omega⟩
end Go.Proofs.YtmbcnfogjncdaaaGreat
namespace Go.Proofs.YtmbcnfogjncdaaaGreat
open Go.RowKit Wh
theorem len_lt {A B : Nat} (h : (dig A).length < (dig B).length) : A < B := Nat.lt_of_lt_of_le (lt_pow_length A) (pow_le_of_length h)
theorem lt_at {A B k : Nat} (hl : (dig A).length = (dig B).length) (hk : k < (dig A).length) (hd : (dig A).drop (k + 1) = (dig B).drop (k + 1)) (hx : (dig A)[k]?.getD 0 < (dig B)[k]?.getD 0) : A < B := by
 have e1 := val_take_drop (dig A) (k + 1)
 have e2 := val_take_drop (dig B) (k + 1)
 rw [val_dig, val_take_next, hd, Nat.min_eq_left (by omega)] at e1
 rw [val_dig, val_take_next, Nat.min_eq_left (by omega)] at e2
 have h1 : val ((dig A).take k) < 65536 ^ k := by
  have := val_lt ((dig_Lm A).take k)
  rwa [List.length_take, Nat.min_eq_left (by omega)] at this
 have h2 : 65536 ^ k * ((dig A)[k]?.getD 0 + 1) ≤ 65536 ^ k * (dig B)[k]?.getD 0 := Nat.mul_le_mul_left _ hx
 rw [Nat.mul_add, Nat.mul_one] at h2
 omega
theorem drop_more {l l' : List Nat} {k : Nat} (hl : l.length = l'.length) (hk : k < l.length) (hd : l.drop (k + 1) = l'.drop (k + 1)) (hx : l[k]?.getD 0 = l'[k]?.getD 0) : l.drop k = l'.drop k := by
 rw [List.drop_eq_getElem_cons hk, List.drop_eq_getElem_cons (by omega : k < l'.length), hd, ← getD_lt_length hk, ← getD_lt_length (by omega : k < l'.length), hx]
def LessRel (A B : Nat) (w : World) (i : Value) (wr : World) : Prop :=
 ∃ k : Nat, k ≤ (dig A).length ∧ i = .int .i64 ((k : Int) - 1) ∧ (dig A).drop k = (dig B).drop k ∧ Below w.heap.size w wr
theorem refLess_any (sa sb : Value) (A B : Nat) (w : World) (h : Lim w sa (dig A)) (g : Lim w sb (dig B)) :
    Calls Tryz.prog 162 #[sa, sb] w fun e w' => e = .returned (.bool (decide (A < B))) ∧ Below w.heap.size w w' := by
  obtain ⟨aa, ca, rfl, hlc, ⟨hcm, hcl, -⟩, -⟩ := id h
  obtain ⟨ab, cb, rfl, glc, ⟨gcm, gcl, -⟩, -⟩ := id g
  obtain ⟨r, hr⟩ : ∃ r, r = decide (A < B) := ⟨_, rfl⟩
  rw [← hr]
  have HR := Lib.hid hr
  have HA := Lib.hid h
  have HB := Lib.hid g
  clear hr h g
  by_cases hl : (dig A).length = (dig B).length
  · have hl0 : (((dig A).length : Int) != ((dig B).length : Int)) = false := by simp [hl]
    have HL := Lib.hid hl
    clear hl
    go_enter Tryz.func162, Tryz.ntmps162
    go_wp2
    go_loopw [5] (fun v5 wr => LessRel A B w v5 wr) (fun v5 _ => (intOf v5 + 1).toNat)
    case atStart => exact ⟨(dig A).length, Nat.le_refl _, rfl, by rw [List.drop_length, HL.out, List.drop_length], Below.refl _ _⟩
    case round =>
      obtain ⟨k, hk, rfl, hd, hB⟩ := hrel
      have HD := Lib.hid hd
      clear hd
      rcases Nat.eq_zero_or_pos k with h0 | h0
      · subst h0
        have hr0 : r = false := by
          rw [HR.out]
          have e := HD.out
          simp only [List.drop_zero] at e
          have e2 := congrArg val e
          rw [val_dig, val_dig] at e2
          exact decide_eq_false (by omega)
        go_wp2
        go_ret
        exact ⟨by rw [hr0]; rfl, hB⟩
      · have hra := HA.out.below hB (Nat.le_refl _)
        have hrb := HB.out.below hB (Nat.le_refl _)
        have hkb : k - 1 < (dig B).length := by have := HL.out; omega
        obtain ⟨b1, o1, rfl⟩ := lim_addr hra (by omega)
        obtain ⟨b2, o2, rfl⟩ := lim_addr hrb (by omega)
        have c1 := cell_of_lim hra (k - 1) (by omega)
        have c2 := cell_of_lim hrb (k - 1) hkb
        clear hra hrb
        have i1 : (1 : Int) ≤ (k : Int) := by omega
        have i2 : (0 : Int) ≤ (k : Int) - 1 := by omega
        have i3 : ((k : Int) - 1) < ((dig A).length : Int) := by omega
        have i5 : ((k : Int) - 1) < ((dig B).length : Int) := by omega
        have i4 : ((k : Int) - 1).toNat = k - 1 := by omega
        clear hkb
        obtain ⟨x, hx⟩ : ∃ x, x = (dig A)[k - 1]?.getD 0 := ⟨_, rfl⟩
        obtain ⟨y, hy⟩ : ∃ y, y = (dig B)[k - 1]?.getD 0 := ⟨_, rfl⟩
        rw [← hx] at c1
        rw [← hy] at c2
        have HX := Lib.hid hx
        have HY := Lib.hid hy
        clear hx hy
        have ek : k - 1 + 1 = k := by omega
        rcases Nat.lt_trichotomy x y with hxy | hxy | hxy
        · have hr0 : r = true := by
            rw [HR.out]
            exact decide_eq_true (lt_at HL.out (k := k - 1) (by omega) (by rw [ek]; exact HD.out) (by rw [← HX.out, ← HY.out]; exact hxy))
          have HR0 := Lib.hid hr0
          clear hr0 ek
          have hxy0 : ((x : Int) != (y : Int)) = true := by simp; omega
          have hxy1 : (x : Int) < (y : Int) := by omega
          go_wp2
          go_quiet (fail)
          go_wp2
          go_quiet (fail)
          go_wp2
          go_ret
          exact ⟨by rw [HR0.out]; rfl, belowN (belowN hB _) _⟩
        · have HN := Lib.hid (drop_more HL.out (k := k - 1) (by omega) (by rw [ek]; exact HD.out) (by rw [← HX.out, ← HY.out]; exact hxy))
          clear ek
          have hxy0 : ((x : Int) != (y : Int)) = false := by simp [hxy]
          clear hxy
          go_wp2
          go_quiet (fail)
          go_wp2
          case roundEnd => exact ⟨⟨k - 1, by omega, by rw [show ((k - 1 : Nat) : Int) = (k : Int) - 1 by omega], HN.out, belowN hB _⟩, by simp [intOf]; omega⟩
        · have hr0 : r = false := by
            rw [HR.out]
            have := lt_at HL.out.symm (A := B) (B := A) (k := k - 1) (by have := HL.out; omega) (by rw [ek]; exact HD.out.symm) (by rw [← HX.out, ← HY.out]; exact hxy)
            exact decide_eq_false (by omega)
          have HR0 := Lib.hid hr0
          clear hr0 ek
          have hxy0 : ((x : Int) != (y : Int)) = true := by simp; omega
          have hxy1 : ¬ (x : Int) < (y : Int) := by omega
          have hxy2 : ¬ x < y := by omega
          clear hxy
          go_wp2
          go_quiet (fail)
          go_wp2
          go_quiet (fail)
          go_wp2
          go_ret
          exact ⟨by rw [HR0.out]; rfl, belowN (belowN hB _) _⟩
  · have hl0 : (((dig A).length : Int) != ((dig B).length : Int)) = true := by simp; omega
    rcases Nat.lt_or_ge (dig A).length (dig B).length with h1 | h1
    · have hr0 : Hid (r = true) := Lib.hid (by rw [HR.out]; exact decide_eq_true (len_lt h1))
      have h2 : ((dig A).length : Int) < ((dig B).length : Int) := by omega
      clear hl h1
      go_enter Tryz.func162, Tryz.ntmps162
      go_wp2
      go_ret
      exact ⟨by rw [hr0.out]; rfl, Below.refl _ _⟩
    · have hr0 : Hid (r = false) := Lib.hid (by
        rw [HR.out]
        have := len_lt (A := B) (B := A) (by omega)
        exact decide_eq_false (by omega))
      have h2 : ¬ ((dig A).length : Int) < ((dig B).length : Int) := by omega
      clear hl h1
      go_enter Tryz.func162, Tryz.ntmps162
      go_wp2
      go_ret
      exact ⟨by rw [hr0.out]; rfl, Below.refl _ _⟩
end Go.Proofs.YtmbcnfogjncdaaaGreat
namespace Go.Proofs.YtmbcnfogjncdaaaGreat
open Go.RowKit Wh
attribute [local go_sem] Oper.semAt_some
def PlusRel (A B m : Nat) (w : World) (o n i : Value) (wr : World) : Prop :=
 ∃ (k : Nat) (l : List Nat) (c : Nat), (k ≤ m ∨ k = m + 1 ∧ c = 0) ∧ i = .int .i64 (k : Int) ∧ n = .int .i64 (c : Int) ∧ c ≤ 1 ∧ l.length = k ∧ Lm l ∧ val ((dig A).take k) + val ((dig B).take k) = val l + 65536 ^ k * c ∧ (k = 0 ∨ 65536 ^ (k - 1) ≤ A + B) ∧
  wr.ownsRow w.heap.size 59 1 o l.length (cellsOf l) ∧ Below w.heap.size w wr
theorem getD_past {l : List Nat} {k : Nat} (h : l.length ≤ k) : l[k]?.getD 0 = 0 := by rw [List.getElem?_eq_none h]; rfl
theorem refPlus_any (sa sb : Value) (A B m : Nat) (ha : (dig A).length ≤ m) (hb : (dig B).length ≤ m) (hm : m ≤ 16384) (w : World) (h : Lim w sa (dig A)) (g : Lim w sb (dig B)) :
    Calls Tryz.prog 60 #[sa, sb] w fun e w' => (∃ v, e = .returned v ∧ LimF w.heap.size w' v (dig (A + B))) ∧ Below w.heap.size w w' := by
  obtain ⟨i0, hi, hz0, hz1, hz2⟩ := info_parts Tryz.infoU
  obtain ⟨aa, ca, rfl⟩ := lim_slice h
  obtain ⟨ab, cb, rfl⟩ := lim_slice g
  have HA := Lib.hid h
  have HB := Lib.hid g
  have HM := Lib.hid (And.intro ha (And.intro hb hm))
  clear h g ha hb hm
  go_enter Tryz.func60, Tryz.ntmps60
  go_wp2
  go_loopw [5, 6, 7] (fun o n i wr => PlusRel A B m w o n i wr) (fun _ _ i _ => (16386 - intOf i).toNat)
  case atStart => exact ⟨0, [], 0, .inl (Nat.zero_le _), rfl, rfl, Nat.zero_le _, rfl, .nil, by simp, .inl rfl, World.ownsRow_nil _ _ _ _, Below.refl _ _⟩
  case round =>
    obtain ⟨k, l, c, hk, rfl, rfl, hc, hl, hlm, hv, htop, hrow, hB⟩ := hrel
    have hk2 : (k : Int) ≤ 16385 := by have := HM.out.2.2; omega
    have hc0 : 0 ≤ (c : Int) := by omega
    have hc1 : (c : Int) ≤ 1 := by omega
    have HK := Lib.hid hk
    have HV := Lib.hid hv
    have HL := Lib.hid hl
    have HT := Lib.hid htop
    clear hk hv hl htop hc
    rcases Nat.lt_or_ge k (dig A).length with ka | ka
    · rcases Nat.lt_or_ge k (dig B).length with kb | kb
      · have hra := HA.out.below hB (Nat.le_refl _)
        obtain ⟨ba, oa, rfl⟩ := lim_addr hra (by omega)
        have hca := cell_of_lim hra k ka
        have hxl := (dig_Lm A).getD k
        clear hra
        have ka1 : (k : Int) < ((dig A).length : Int) := by omega
        have hrb := HB.out.below hB (Nat.le_refl _)
        obtain ⟨bb, ob, rfl⟩ := lim_addr hrb (by omega)
        have hcb := cell_of_lim hrb k kb
        have hyl := (dig_Lm B).getD k
        clear hrb
        have kb1 : (k : Int) < ((dig B).length : Int) := by omega
        have hst := plus_step HL.out HV.out
        have HTP := Lib.hid (plus_top HV.out (.inl ⟨ka, by rw [val_dig]⟩))
        obtain ⟨x, hx⟩ : ∃ u : Nat, u = (dig A)[k]?.getD 0 := ⟨_, rfl⟩
        rw [← hx] at hca hxl hst
        clear hx
        obtain ⟨y, hy⟩ : ∃ u : Nat, u = (dig B)[k]?.getD 0 := ⟨_, rfl⟩
        rw [← hy] at hcb hyl hst
        clear hy
        obtain ⟨s, hs⟩ : ∃ s : Nat, s = c + x + y := ⟨_, rfl⟩
        rw [← hs] at hst
        have HST := Lib.hid hst
        clear hst
        have hs0 : (s : Int) ≤ 131071 := by omega
        have HS := Lib.hid hs
        clear hs
        have hxi : (x : Int) ≤ 65535 := by omega
        clear hxl
        have hyi : (y : Int) ≤ 65535 := by omega
        clear hyl
        have hln : l.length ≤ 16385 := by have := HL.out; omega
        have hlm2 : Lm (l ++ [s % 65536]) := hlm.append (.cons (by omega) .nil)
        have HE := Lib.hid (show cellsOf l ++ [Value.int .u16 (((c : Int) + (x : Int) + (y : Int)) % 65536)] = cellsOf (l ++ [s % 65536]) by rw [show ((c : Int) + (x : Int) + (y : Int)) % 65536 = ((s % 65536 : Nat) : Int) by have := HS.out; omega, cellsOf_snoc])
        have HLM := Lib.hid hlm2
        clear hlm hlm2
        go_wp2_with (at_builtin; (refine wpList_append_own _ rfl _ _ 22 rfl w.heap.size 59 i0 (.int .u16 0) 1 2 Tryz.underlying22 hi hz0 hz1 hz2 rfl (by decide) _ _ _ rfl (hrow.alloc _) ⟨wr.heap.size, 0, none⟩ 1 1 [.int .u16 (((c : Int) + (x : Int) + (y : Int)) % 65536)] rfl rfl (cell_one_new _ _ _) (by simp [Value.oneCell']) (by unfold maxLen; omega) (by omega) (by simp; have := hB.size; omega) ?_; intro v' w2 hrow2 hgrow _))
        rw [HE.out] at hrow2
        have hB2 := (hB.alloc hB.size (.cells #[.int .u16 (((c : Int) + (x : Int) + (y : Int)) % 65536)] 59)).grown hgrow (by simp; have := hB.size; omega) (fun k e => by have := (hrow.lt k e).1; omega)
        go_roundw
        case rel => exact ⟨k + 1, l ++ [s % 65536], s / 65536, .inl (by have := HM.out; omega), by go_num, by rw [show ((c : Int) + (x : Int) + (y : Int)) / 65536 = ((s / 65536 : Nat) : Int) by have := HS.out; omega], by have := HS.out; omega, by rw [List.length_append, HL.out]; rfl, HLM.out, HST.out, .inr (by have := HTP.out; rw [val_dig, val_dig] at this; exact this), by simpa using hrow2, hB2⟩
        case measure => simp [intOf]; omega
      · have hra := HA.out.below hB (Nat.le_refl _)
        obtain ⟨ba, oa, rfl⟩ := lim_addr hra (by omega)
        have hca := cell_of_lim hra k ka
        have hxl := (dig_Lm A).getD k
        clear hra
        have ka1 : (k : Int) < ((dig A).length : Int) := by omega
        have kb1 : ¬ (k : Int) < ((dig B).length : Int) := by omega
        have hst := plus_step HL.out HV.out
        have HTP := Lib.hid (plus_top HV.out (.inl ⟨ka, by rw [val_dig]⟩))
        rw [getD_past kb] at hst
        obtain ⟨x, hx⟩ : ∃ u : Nat, u = (dig A)[k]?.getD 0 := ⟨_, rfl⟩
        rw [← hx] at hca hxl hst
        clear hx
        obtain ⟨s, hs⟩ : ∃ s : Nat, s = c + x + 0 := ⟨_, rfl⟩
        rw [← hs] at hst
        have HST := Lib.hid hst
        clear hst
        have hs0 : (s : Int) ≤ 131071 := by omega
        have HS := Lib.hid hs
        clear hs
        have hxi : (x : Int) ≤ 65535 := by omega
        clear hxl
        have hln : l.length ≤ 16385 := by have := HL.out; omega
        have hlm2 : Lm (l ++ [s % 65536]) := hlm.append (.cons (by omega) .nil)
        have HE := Lib.hid (show cellsOf l ++ [Value.int .u16 (((c : Int) + (x : Int)) % 65536)] = cellsOf (l ++ [s % 65536]) by rw [show ((c : Int) + (x : Int)) % 65536 = ((s % 65536 : Nat) : Int) by have := HS.out; omega, cellsOf_snoc])
        have HLM := Lib.hid hlm2
        clear hlm hlm2
        go_wp2_with (at_builtin; (refine wpList_append_own _ rfl _ _ 22 rfl w.heap.size 59 i0 (.int .u16 0) 1 2 Tryz.underlying22 hi hz0 hz1 hz2 rfl (by decide) _ _ _ rfl (hrow.alloc _) ⟨wr.heap.size, 0, none⟩ 1 1 [.int .u16 (((c : Int) + (x : Int)) % 65536)] rfl rfl (cell_one_new _ _ _) (by simp [Value.oneCell']) (by unfold maxLen; omega) (by omega) (by simp; have := hB.size; omega) ?_; intro v' w2 hrow2 hgrow _))
        rw [HE.out] at hrow2
        have hB2 := (hB.alloc hB.size (.cells #[.int .u16 (((c : Int) + (x : Int)) % 65536)] 59)).grown hgrow (by simp; have := hB.size; omega) (fun k e => by have := (hrow.lt k e).1; omega)
        go_roundw
        case rel => exact ⟨k + 1, l ++ [s % 65536], s / 65536, .inl (by have := HM.out; omega), by go_num, by rw [show ((c : Int) + (x : Int)) / 65536 = ((s / 65536 : Nat) : Int) by have := HS.out; omega], by have := HS.out; omega, by rw [List.length_append, HL.out]; rfl, HLM.out, HST.out, .inr (by have := HTP.out; rw [val_dig, val_dig] at this; exact this), by simpa using hrow2, hB2⟩
        case measure => simp [intOf]; omega
    · rcases Nat.lt_or_ge k (dig B).length with kb | kb
      · have ka1 : ¬ (k : Int) < ((dig A).length : Int) := by omega
        have hrb := HB.out.below hB (Nat.le_refl _)
        obtain ⟨bb, ob, rfl⟩ := lim_addr hrb (by omega)
        have hcb := cell_of_lim hrb k kb
        have hyl := (dig_Lm B).getD k
        clear hrb
        have kb1 : (k : Int) < ((dig B).length : Int) := by omega
        have hst := plus_step HL.out HV.out
        have HTP := Lib.hid (plus_top HV.out (.inr (.inl ⟨kb, by rw [val_dig]⟩)))
        rw [getD_past ka] at hst
        obtain ⟨y, hy⟩ : ∃ u : Nat, u = (dig B)[k]?.getD 0 := ⟨_, rfl⟩
        rw [← hy] at hcb hyl hst
        clear hy
        obtain ⟨s, hs⟩ : ∃ s : Nat, s = c + 0 + y := ⟨_, rfl⟩
        rw [← hs] at hst
        have HST := Lib.hid hst
        clear hst
        have hs0 : (s : Int) ≤ 131071 := by omega
        have HS := Lib.hid hs
        clear hs
        have hyi : (y : Int) ≤ 65535 := by omega
        clear hyl
        have hln : l.length ≤ 16385 := by have := HL.out; omega
        have hlm2 : Lm (l ++ [s % 65536]) := hlm.append (.cons (by omega) .nil)
        have HE := Lib.hid (show cellsOf l ++ [Value.int .u16 (((c : Int) + (y : Int)) % 65536)] = cellsOf (l ++ [s % 65536]) by rw [show ((c : Int) + (y : Int)) % 65536 = ((s % 65536 : Nat) : Int) by have := HS.out; omega, cellsOf_snoc])
        have HLM := Lib.hid hlm2
        clear hlm hlm2
        go_wp2_with (at_builtin; (refine wpList_append_own _ rfl _ _ 22 rfl w.heap.size 59 i0 (.int .u16 0) 1 2 Tryz.underlying22 hi hz0 hz1 hz2 rfl (by decide) _ _ _ rfl (hrow.alloc _) ⟨wr.heap.size, 0, none⟩ 1 1 [.int .u16 (((c : Int) + (y : Int)) % 65536)] rfl rfl (cell_one_new _ _ _) (by simp [Value.oneCell']) (by unfold maxLen; omega) (by omega) (by simp; have := hB.size; omega) ?_; intro v' w2 hrow2 hgrow _))
        rw [HE.out] at hrow2
        have hB2 := (hB.alloc hB.size (.cells #[.int .u16 (((c : Int) + (y : Int)) % 65536)] 59)).grown hgrow (by simp; have := hB.size; omega) (fun k e => by have := (hrow.lt k e).1; omega)
        go_roundw
        case rel => exact ⟨k + 1, l ++ [s % 65536], s / 65536, .inl (by have := HM.out; omega), by go_num, by rw [show ((c : Int) + (y : Int)) / 65536 = ((s / 65536 : Nat) : Int) by have := HS.out; omega], by have := HS.out; omega, by rw [List.length_append, HL.out]; rfl, HLM.out, HST.out, .inr (by have := HTP.out; rw [val_dig, val_dig] at this; exact this), by simpa using hrow2, hB2⟩
        case measure => simp [intOf]; omega
      · rcases Nat.eq_zero_or_pos c with hc2 | hc2
        · subst hc2
          have ka1 : ¬ (k : Int) < ((dig A).length : Int) := by omega
          have kb1 : ¬ (k : Int) < ((dig B).length : Int) := by omega
          have hv2 := HV.out
          rw [List.take_of_length_le ka, List.take_of_length_le kb, val_dig, val_dig, Nat.mul_zero, Nat.add_zero] at hv2
          have hd := dig_of_val hlm hv2.symm (by rw [HL.out]; exact HT.out)
          have hln : l.length ≤ 16385 := by have := HL.out; omega
          have HLF : Hid (LimF w.heap.size wr u5 (dig (A + B))) := Lib.hid (by rw [← hd]; exact ⟨Lim.of_owns hrow (by omega), Fr.of_owns hrow⟩)
          clear hv2 hd hln hrow hlm
          go_wp2
          go_ret
          exact ⟨⟨_, rfl, HLF.out⟩, hB⟩
        · have ka1 : ¬ (k : Int) < ((dig A).length : Int) := by omega
          have kb1 : ¬ (k : Int) < ((dig B).length : Int) := by omega
          have hst := plus_step HL.out HV.out
          have HTP := Lib.hid (plus_top HV.out (.inr (.inr hc2)))
          rw [getD_past ka] at hst
          rw [getD_past kb] at hst
          obtain ⟨s, hs⟩ : ∃ s : Nat, s = c + 0 + 0 := ⟨_, rfl⟩
          rw [← hs] at hst
          have HST := Lib.hid hst
          clear hst
          have hs0 : (s : Int) ≤ 131071 := by omega
          have HS := Lib.hid hs
          clear hs
          have hln : l.length ≤ 16385 := by have := HL.out; omega
          have hlm2 : Lm (l ++ [s % 65536]) := hlm.append (.cons (by omega) .nil)
          have HE := Lib.hid (show cellsOf l ++ [Value.int .u16 ((c : Int) % 65536)] = cellsOf (l ++ [s % 65536]) by rw [show (c : Int) % 65536 = ((s % 65536 : Nat) : Int) by have := HS.out; omega, cellsOf_snoc])
          have HLM := Lib.hid hlm2
          clear hlm hlm2
          go_wp2_with (at_builtin; (refine wpList_append_own _ rfl _ _ 22 rfl w.heap.size 59 i0 (.int .u16 0) 1 2 Tryz.underlying22 hi hz0 hz1 hz2 rfl (by decide) _ _ _ rfl (hrow.alloc _) ⟨wr.heap.size, 0, none⟩ 1 1 [.int .u16 ((c : Int) % 65536)] rfl rfl (cell_one_new _ _ _) (by simp [Value.oneCell']) (by unfold maxLen; omega) (by omega) (by simp; have := hB.size; omega) ?_; intro v' w2 hrow2 hgrow _))
          rw [HE.out] at hrow2
          have hB2 := (hB.alloc hB.size (.cells #[.int .u16 ((c : Int) % 65536)] 59)).grown hgrow (by simp; have := hB.size; omega) (fun k e => by have := (hrow.lt k e).1; omega)
          go_roundw
          case rel => exact ⟨k + 1, l ++ [s % 65536], s / 65536, (by have h1 := HM.out; have h2 := HK.out; have h3 := HS.out; rcases h2 with h2 | h2 <;> omega), by go_num, by rw [show (c : Int) / 65536 = ((s / 65536 : Nat) : Int) by have := HS.out; omega], by have := HS.out; omega, by rw [List.length_append, HL.out]; rfl, HLM.out, HST.out, .inr (by have := HTP.out; rw [val_dig, val_dig] at this; exact this), by simpa using hrow2, hB2⟩
          case measure => simp [intOf]; omega
end Go.Proofs.YtmbcnfogjncdaaaGreat
namespace Go.Proofs.YtmbcnfogjncdaaaGreat
open Go.RowKit Wh
attribute [local go_sem] Oper.semAt_some
def MinusRel (A B : Nat) (w : World) (o n i : Value) (wr : World) : Prop :=
 ∃ (k : Nat) (l : List Nat) (c : Nat), k ≤ (dig A).length ∧ i = .int .i64 (k : Int) ∧ n = .int .i64 (c : Int) ∧ c ≤ 1 ∧ l.length = k ∧ Lm l ∧ val ((dig A).take k) + 65536 ^ k * c = val ((dig B).take k) + val l ∧
  wr.ownsRow w.heap.size 59 1 o l.length (cellsOf l) ∧ Below w.heap.size w wr
theorem refMinus_any (sa sb : Value) (A B : Nat) (hAB : B ≤ A) (hm : (dig A).length ≤ 16384) (w : World) (h : Lim w sa (dig A)) (g : Lim w sb (dig B)) :
    Calls Tryz.prog 163 #[sa, sb] w fun e w' => (∃ v, e = .returned v ∧ LimF w.heap.size w' v (dig (A - B))) ∧ Below w.heap.size w w' := by
  obtain ⟨i0, hi, hz0, hz1, hz2⟩ := info_parts Tryz.infoU
  obtain ⟨aa, ca, rfl⟩ := lim_slice h
  obtain ⟨ab, cb, rfl⟩ := lim_slice g
  have HA := Lib.hid h
  have HB := Lib.hid g
  have HM := Lib.hid (And.intro hAB hm)
  clear h g hm hAB
  go_enter Tryz.func163, Tryz.ntmps163
  go_wp2
  go_loopw [5, 6, 7] (fun o n i wr => MinusRel A B w o n i wr) (fun _ _ i _ => (16386 - intOf i).toNat)
  case atStart => exact ⟨0, [], 0, Nat.zero_le _, rfl, rfl, Nat.zero_le _, rfl, .nil, by simp, World.ownsRow_nil _ _ _ _, Below.refl _ _⟩
  case round =>
    obtain ⟨k, l, c, hk, rfl, rfl, hc, hl, hlm, hv, hrow, hB⟩ := hrel
    have hk2 : (k : Int) ≤ 16384 := by have := HM.out.2; omega
    have hc0 : 0 ≤ (c : Int) := by omega
    have hc1 : (c : Int) ≤ 1 := by omega
    have HV := Lib.hid hv
    have HL := Lib.hid hl
    have HC := Lib.hid hc
    clear hv hl hc
    rcases Nat.lt_or_ge k (dig A).length with ka | ka
    · rcases Nat.lt_or_ge k (dig B).length with kb | kb
      · have hra := HA.out.below hB (Nat.le_refl _)
        obtain ⟨ba, oa, rfl⟩ := lim_addr hra (by omega)
        have hca := cell_of_lim hra k ka
        have hxl := (dig_Lm A).getD k
        clear hra
        have ka1 : (k : Int) < ((dig A).length : Int) := by omega
        have hyl := (dig_Lm B).getD k
        have hrb := HB.out.below hB (Nat.le_refl _)
        obtain ⟨bb, ob, rfl⟩ := lim_addr hrb (by omega)
        have hcb := cell_of_lim hrb k kb
        clear hrb
        have kb1 : (k : Int) < ((dig B).length : Int) := by omega
        have hst := minus_step HC.out hxl hyl HL.out HV.out
        obtain ⟨x, hx⟩ : ∃ u : Nat, u = (dig A)[k]?.getD 0 := ⟨_, rfl⟩
        rw [← hx] at hca hxl hst
        clear hx
        obtain ⟨y, hy⟩ : ∃ u : Nat, u = (dig B)[k]?.getD 0 := ⟨_, rfl⟩
        rw [← hy] at hcb hyl hst
        clear hy
        obtain ⟨s, hs⟩ : ∃ s : Nat, s = 65536 + x - c - y := ⟨_, rfl⟩
        rw [← hs] at hst
        obtain ⟨hst, hq1⟩ := hst
        have HST := Lib.hid hst
        have HQ1 := Lib.hid hq1
        clear hst hq1
        have hxi : (x : Int) ≤ 65535 := by omega
        have hyi : (y : Int) ≤ 65535 := by omega
        have HS := Lib.hid (show (s : Int) = (65536 + (x : Int) - (c : Int) - (y : Int)) by omega)
        clear hs hxl hyl
        have hln : l.length ≤ 16384 := by have := HL.out; omega
        have HLM := Lib.hid (show Lm (l ++ [s % 65536]) from hlm.append (.cons (by omega) .nil))
        clear hlm
        have HE := Lib.hid (show cellsOf l ++ [Value.int .u16 ((65536 + (x : Int) - (c : Int) - (y : Int)) % 65536)] = cellsOf (l ++ [s % 65536]) by rw [show (65536 + (x : Int) - (c : Int) - (y : Int)) % 65536 = ((s % 65536 : Nat) : Int) by have := HS.out; omega, cellsOf_snoc])
        go_wp2_with (at_builtin; refine wpList_append_own _ rfl _ _ 22 rfl w.heap.size 59 i0 (.int .u16 0) 1 2 Tryz.underlying22 hi hz0 hz1 hz2 rfl (by decide) _ _ _ rfl (hrow.alloc _) ⟨wr.heap.size, 0, none⟩ 1 1 [.int .u16 ((65536 + (x : Int) - (c : Int) - (y : Int)) % 65536)] rfl rfl (cell_one_new _ _ _) (by simp [Value.oneCell']) (by unfold maxLen; omega) (by omega) (by simp; have := hB.size; omega) ?_; intro v' w2 hrow2 hgrow _)
        rw [HE.out] at hrow2
        have hB2 := (hB.alloc hB.size (.cells #[.int .u16 ((65536 + (x : Int) - (c : Int) - (y : Int)) % 65536)] 59)).grown hgrow (by simp; have := hB.size; omega) (fun k e => by have := (hrow.lt k e).1; omega)
        go_roundw
        case rel => exact ⟨k + 1, l ++ [s % 65536], 1 - s / 65536, ka, by go_num, by rw [show (1 : Int) - (65536 + (x : Int) - (c : Int) - (y : Int)) / 65536 = ((1 - s / 65536 : Nat) : Int) by have := HS.out; have := HQ1.out; omega], HQ1.out, by rw [List.length_append, HL.out]; rfl, HLM.out, HST.out, by simpa using hrow2, hB2⟩
        case measure => simp [intOf]; omega
      · have hra := HA.out.below hB (Nat.le_refl _)
        obtain ⟨ba, oa, rfl⟩ := lim_addr hra (by omega)
        have hca := cell_of_lim hra k ka
        have hxl := (dig_Lm A).getD k
        clear hra
        have ka1 : (k : Int) < ((dig A).length : Int) := by omega
        have hyl := (dig_Lm B).getD k
        have kb1 : ¬ (k : Int) < ((dig B).length : Int) := by omega
        have hst := minus_step HC.out hxl hyl HL.out HV.out
        rw [getD_past kb] at hst hyl
        obtain ⟨x, hx⟩ : ∃ u : Nat, u = (dig A)[k]?.getD 0 := ⟨_, rfl⟩
        rw [← hx] at hca hxl hst
        clear hx
        obtain ⟨s, hs⟩ : ∃ s : Nat, s = 65536 + x - c - 0 := ⟨_, rfl⟩
        rw [← hs] at hst
        obtain ⟨hst, hq1⟩ := hst
        have HST := Lib.hid hst
        have HQ1 := Lib.hid hq1
        clear hst hq1
        have hxi : (x : Int) ≤ 65535 := by omega
        have HS := Lib.hid (show (s : Int) = (65536 + (x : Int) - (c : Int)) by omega)
        clear hs hxl hyl
        have hln : l.length ≤ 16384 := by have := HL.out; omega
        have HLM := Lib.hid (show Lm (l ++ [s % 65536]) from hlm.append (.cons (by omega) .nil))
        clear hlm
        have HE := Lib.hid (show cellsOf l ++ [Value.int .u16 ((65536 + (x : Int) - (c : Int)) % 65536)] = cellsOf (l ++ [s % 65536]) by rw [show (65536 + (x : Int) - (c : Int)) % 65536 = ((s % 65536 : Nat) : Int) by have := HS.out; omega, cellsOf_snoc])
        go_wp2_with (at_builtin; refine wpList_append_own _ rfl _ _ 22 rfl w.heap.size 59 i0 (.int .u16 0) 1 2 Tryz.underlying22 hi hz0 hz1 hz2 rfl (by decide) _ _ _ rfl (hrow.alloc _) ⟨wr.heap.size, 0, none⟩ 1 1 [.int .u16 ((65536 + (x : Int) - (c : Int)) % 65536)] rfl rfl (cell_one_new _ _ _) (by simp [Value.oneCell']) (by unfold maxLen; omega) (by omega) (by simp; have := hB.size; omega) ?_; intro v' w2 hrow2 hgrow _)
        rw [HE.out] at hrow2
        have hB2 := (hB.alloc hB.size (.cells #[.int .u16 ((65536 + (x : Int) - (c : Int)) % 65536)] 59)).grown hgrow (by simp; have := hB.size; omega) (fun k e => by have := (hrow.lt k e).1; omega)
        go_roundw
        case rel => exact ⟨k + 1, l ++ [s % 65536], 1 - s / 65536, ka, by go_num, by rw [show (1 : Int) - (65536 + (x : Int) - (c : Int)) / 65536 = ((1 - s / 65536 : Nat) : Int) by have := HS.out; have := HQ1.out; omega], HQ1.out, by rw [List.length_append, HL.out]; rfl, HLM.out, HST.out, by simpa using hrow2, hB2⟩
        case measure => simp [intOf]; omega
    · have ka1 : ¬ (k : Int) < ((dig A).length : Int) := by omega
      obtain rfl : k = (dig A).length := by omega
      have hlb : (dig B).length ≤ (dig A).length := (length_dig_le _ _).2 (Nat.lt_of_le_of_lt HM.out.1 (lt_pow_length A))
      have hend := minus_end HC.out (by rw [val_dig, val_dig]; exact HM.out.1) hlb HL.out hlm HV.out
      rw [val_dig, val_dig] at hend
      have hll : Lim wr u5 l := Lim.of_owns hrow (by rw [HL.out]; have := HM.out.2; omega)
      have hfr := Fr.of_owns hrow
      have HT := Lib.hid (refTrim_any u5 l hlm wr hll)
      have HEN := Lib.hid hend
      have HFR := Lib.hid hfr
      obtain ⟨a5, c5, rfl⟩ := lim_slice hll
      clear hend hlb hll hfr hlm hrow
      go_wp2_with fail
      refine HT.out.mono ?_
      rintro e w2 ⟨⟨v, rfl, hq, hqf⟩, hb2⟩
      rw [HEN.out] at hq
      have HLF := Lib.hid (show LimF w.heap.size w2 v (dig (A - B)) from ⟨hq, hqf _ HFR.out⟩)
      have hB2 := hB.trans (hb2.mono hB.size)
      clear hq hqf hb2
      go_wp2
      go_ret
      exact ⟨⟨_, rfl, HLF.out⟩, hB2⟩
end Go.Proofs.YtmbcnfogjncdaaaGreat
