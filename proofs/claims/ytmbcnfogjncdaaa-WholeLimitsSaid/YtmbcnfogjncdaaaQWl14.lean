/- A part of the proofs about fractions. -/
import Derived.BigQuiet
import Derived.Deep.QuietTactic
import Derived.Test.YtmbcnfogjncdaaaQWl13
import Derived.Test.YtmbcnfogjncdaaaQWl8
set_option maxRecDepth 100000
set_option maxHeartbeats 8000000
namespace Go.Proofs.Ytmbcnfogjncdaaa
open Go.RowKit Wh
attribute [local go_sem] Oper.semAt_some
def MinusRel (A B : Nat) (w : World) (o n i : Value) (wr : World) : Prop :=
 ∃ (k : Nat) (l : List Nat) (c : Nat), k ≤ (dig A).length ∧ i = .int .i64 (k : Int) ∧ n = .int .i64 (c : Int) ∧ c ≤ 1 ∧ l.length = k ∧ Lm l ∧ val ((dig A).take k) + 65536 ^ k * c = val ((dig B).take k) + val l ∧
  wr.ownsRow w.heap.size 22 1 o l.length (cellsOf l) ∧ Below w.heap.size w wr
theorem refMinus_any (sa sb : Value) (A B : Nat) (hAB : B ≤ A) (hm : (dig A).length ≤ 16384) (w : World) (h : Lim w sa (dig A)) (g : Lim w sb (dig B)) :
    Calls Try.prog 41 #[sa, sb] w fun e w' => (∃ v, e = .returned v ∧ LimF w.heap.size w' v (dig (A - B))) ∧ Below w.heap.size w w' := by
  obtain ⟨i0, hi, hz0, hz1, hz2⟩ := info_parts Try.infoU
  obtain ⟨aa, ca, rfl⟩ := lim_slice h
  obtain ⟨ab, cb, rfl⟩ := lim_slice g
  have HA := Lib.hid h
  have HB := Lib.hid g
  have HM := Lib.hid (And.intro hAB hm)
  clear h g hm hAB
  go_enter Try.func41, Try.ntmps41
  go_wp2
  go_loopw [5, 6, 7] (fun o n i wr => MinusRel A B w o n i wr) (fun _ _ i _ => (16386 - intOf i).toNat)
  case atStart => exact ⟨0, [], 0, Nat.zero_le _, rfl, rfl, Nat.zero_le _, rfl, .nil, by simp, World.ownsRow_nil _ _ _ _, Below.refl _ _⟩
  case round =>
    obtain ⟨k, l, c, hk, rfl, rfl, hc, hl, hlm, hv, hrow, hB⟩ := hrel
    have hk2 : (k : Int) ≤ 16384 := by have := HM.out.2; omega
    have hc0 : 0 ≤ (c : Int) := by omega
    have hc1 : (c : Int) ≤ 1 := by omega
    have HV := Lib.hid hv
    have HL := Lib.hid hl
    have HC := Lib.hid hc
    clear hv hl hc
    rcases Nat.lt_or_ge k (dig A).length with ka | ka
    · rcases Nat.lt_or_ge k (dig B).length with kb | kb
      · have hra := HA.out.below hB (Nat.le_refl _)
        obtain ⟨ba, oa, rfl⟩ := lim_addr hra (by omega)
        have hca := cell_of_lim hra k ka
        have hxl := (dig_Lm A).getD k
        clear hra
        have ka1 : (k : Int) < ((dig A).length : Int) := by omega
        have hyl := (dig_Lm B).getD k
        have hrb := HB.out.below hB (Nat.le_refl _)
        obtain ⟨bb, ob, rfl⟩ := lim_addr hrb (by omega)
        have hcb := cell_of_lim hrb k kb
        clear hrb
        have kb1 : (k : Int) < ((dig B).length : Int) := by omega
        have hst := minus_step HC.out hxl hyl HL.out HV.out
        obtain ⟨x, hx⟩ : ∃ u : Nat, u = (dig A)[k]?.getD 0 := ⟨_, rfl⟩
        rw [← hx] at hca hxl hst
        clear hx
        obtain ⟨y, hy⟩ : ∃ u : Nat, u = (dig B)[k]?.getD 0 := ⟨_, rfl⟩
        rw [← hy] at hcb hyl hst
        clear hy
        obtain ⟨s, hs⟩ : ∃ s : Nat, s = 65536 + x - c - y := ⟨_, rfl⟩
        rw [← hs] at hst
        obtain ⟨hst, hq1⟩ := hst
        have HST := Lib.hid hst
        have HQ1 := Lib.hid hq1
        clear hst hq1
        have hxi : (x : Int) ≤ 65535 := by omega
        have hyi : (y : Int) ≤ 65535 := by omega
        have HS := Lib.hid (show (s : Int) = (65536 + (x : Int) - (c : Int) - (y : Int)) by omega)
        clear hs hxl hyl
        have hln : l.length ≤ 16384 := by have := HL.out; omega
        have HLM := Lib.hid (show Lm (l ++ [s % 65536]) from hlm.append (.cons (by omega) .nil))
        clear hlm
        have HE := Lib.hid (show cellsOf l ++ [Value.int .u16 ((65536 + (x : Int) - (c : Int) - (y : Int)) % 65536)] = cellsOf (l ++ [s % 65536]) by rw [show (65536 + (x : Int) - (c : Int) - (y : Int)) % 65536 = ((s % 65536 : Nat) : Int) by have := HS.out; omega, cellsOf_snoc])
        go_wp2_with (at_builtin; refine wpList_append_own _ rfl _ _ 24 rfl w.heap.size 22 i0 (.int .u16 0) 1 2 Try.underlying24 hi hz0 hz1 hz2 rfl (by decide) _ _ _ rfl (hrow.alloc _) ⟨wr.heap.size, 0, none⟩ 1 1 [.int .u16 ((65536 + (x : Int) - (c : Int) - (y : Int)) % 65536)] rfl rfl (cell_one_new _ _ _) (by simp [Value.oneCell']) (by unfold maxLen; omega) (by omega) (by simp; have := hB.size; omega) ?_; intro v' w2 hrow2 hgrow _)
        rw [HE.out] at hrow2
        have hB2 := (hB.alloc hB.size (.cells #[.int .u16 ((65536 + (x : Int) - (c : Int) - (y : Int)) % 65536)] 22)).grown hgrow (by simp; have := hB.size; omega) (fun k e => by have := (hrow.lt k e).1; omega)
        go_roundw
        case rel => exact ⟨k + 1, l ++ [s % 65536], 1 - s / 65536, ka, by go_num, by rw [show (1 : Int) - (65536 + (x : Int) - (c : Int) - (y : Int)) / 65536 = ((1 - s / 65536 : Nat) : Int) by have := HS.out; have := HQ1.out; omega], HQ1.out, by rw [List.length_append, HL.out]; rfl, HLM.out, HST.out, by simpa using hrow2, hB2⟩
        case measure => simp [intOf]; omega
      · have hra := HA.out.below hB (Nat.le_refl _)
        obtain ⟨ba, oa, rfl⟩ := lim_addr hra (by omega)
        have hca := cell_of_lim hra k ka
        have hxl := (dig_Lm A).getD k
        clear hra
        have ka1 : (k : Int) < ((dig A).length : Int) := by omega
        have hyl := (dig_Lm B).getD k
        have kb1 : ¬ (k : Int) < ((dig B).length : Int) := by omega
        have hst := minus_step HC.out hxl hyl HL.out HV.out
        rw [getD_past kb] at hst hyl
        obtain ⟨x, hx⟩ : ∃ u : Nat, u = (dig A)[k]?.getD 0 := ⟨_, rfl⟩
        rw [← hx] at hca hxl hst
        clear hx
        obtain ⟨s, hs⟩ : ∃ s : Nat, s = 65536 + x - c - 0 := ⟨_, rfl⟩
        rw [← hs] at hst
        obtain ⟨hst, hq1⟩ := hst
        have HST := Lib.hid hst
        have HQ1 := Lib.hid hq1
        clear hst hq1
        have hxi : (x : Int) ≤ 65535 := by omega
        have HS := Lib.hid (show (s : Int) = (65536 + (x : Int) - (c : Int)) by omega)
        clear hs hxl hyl
        have hln : l.length ≤ 16384 := by have := HL.out; omega
        have HLM := Lib.hid (show Lm (l ++ [s % 65536]) from hlm.append (.cons (by omega) .nil))
        clear hlm
        have HE := Lib.hid (show cellsOf l ++ [Value.int .u16 ((65536 + (x : Int) - (c : Int)) % 65536)] = cellsOf (l ++ [s % 65536]) by rw [show (65536 + (x : Int) - (c : Int)) % 65536 = ((s % 65536 : Nat) : Int) by have := HS.out; omega, cellsOf_snoc])
        go_wp2_with (at_builtin; refine wpList_append_own _ rfl _ _ 24 rfl w.heap.size 22 i0 (.int .u16 0) 1 2 Try.underlying24 hi hz0 hz1 hz2 rfl (by decide) _ _ _ rfl (hrow.alloc _) ⟨wr.heap.size, 0, none⟩ 1 1 [.int .u16 ((65536 + (x : Int) - (c : Int)) % 65536)] rfl rfl (cell_one_new _ _ _) (by simp [Value.oneCell']) (by unfold maxLen; omega) (by omega) (by simp; have := hB.size; omega) ?_; intro v' w2 hrow2 hgrow _)
        rw [HE.out] at hrow2
        have hB2 := (hB.alloc hB.size (.cells #[.int .u16 ((65536 + (x : Int) - (c : Int)) % 65536)] 22)).grown hgrow (by simp; have := hB.size; omega) (fun k e => by have := (hrow.lt k e).1; omega)
        go_roundw
        case rel => exact ⟨k + 1, l ++ [s % 65536], 1 - s / 65536, ka, by go_num, by rw [show (1 : Int) - (65536 + (x : Int) - (c : Int)) / 65536 = ((1 - s / 65536 : Nat) : Int) by have := HS.out; have := HQ1.out; omega], HQ1.out, by rw [List.length_append, HL.out]; rfl, HLM.out, HST.out, by simpa using hrow2, hB2⟩
        case measure => simp [intOf]; omega
    · have ka1 : ¬ (k : Int) < ((dig A).length : Int) := by omega
      obtain rfl : k = (dig A).length := by omega
      have hlb : (dig B).length ≤ (dig A).length := (length_dig_le _ _).2 (Nat.lt_of_le_of_lt HM.out.1 (lt_pow_length A))
      have hend := minus_end HC.out (by rw [val_dig, val_dig]; exact HM.out.1) hlb HL.out hlm HV.out
      rw [val_dig, val_dig] at hend
      have hll : Lim wr u5 l := Lim.of_owns hrow (by rw [HL.out]; have := HM.out.2; omega)
      have hfr := Fr.of_owns hrow
      have HT := Lib.hid (refTrim_any u5 l hlm wr hll)
      have HEN := Lib.hid hend
      have HFR := Lib.hid hfr
      obtain ⟨a5, c5, rfl⟩ := lim_slice hll
      clear hend hlb hll hfr hlm hrow
      go_wp2_with fail
      refine HT.out.mono ?_
      rintro e w2 ⟨⟨v, rfl, hq, hqf⟩, hb2⟩
      rw [HEN.out] at hq
      have HLF := Lib.hid (show LimF w.heap.size w2 v (dig (A - B)) from ⟨hq, hqf _ HFR.out⟩)
      have hB2 := hB.trans (hb2.mono hB.size)
      clear hq hqf hb2
      go_wp2
      go_ret
      exact ⟨⟨_, rfl, HLF.out⟩, hB2⟩
end Go.Proofs.Ytmbcnfogjncdaaa
namespace Go.Proofs.Ytmbcnfogjncdaaa
open Go.RowKit Wh
attribute [local go_sem] Oper.semAt_some
end Go.Proofs.Ytmbcnfogjncdaaa
namespace Go.Proofs.Ytmbcnfogjncdaaa
open Go.RowKit Wh
attribute [local go_sem] Oper.semAt_some
end Go.Proofs.Ytmbcnfogjncdaaa
namespace Go.Proofs.Ytmbcnfogjncdaaa
open Go.RowKit Wh
attribute [local go_sem] Oper.semAt_some
def TimesRel (A B N G : Nat) (w : World) (i : Value) (wr : World) : Prop :=
 ∃ (k : Nat) (o : List Nat), k ≤ (dig A).length ∧ i = .int .i64 (k : Int) ∧ o.length = N ∧ Lm o ∧ (∀ j, k + (dig B).length ≤ j → o[j]?.getD 0 = 0) ∧ val o = val ((dig A).take k) * B ∧
  wr.ownsRow w.heap.size 22 1 (.slice (some ⟨G, 0, none⟩) N N) N (cellsOf o) ∧ Below w.heap.size w wr
def TimesIn (B N G i x V : Nat) (w : World) (n kv : Value) (wr : World) : Prop :=
 ∃ (k n' : Nat) (o : List Nat), k ≤ (dig B).length ∧ kv = .int .i64 (k : Int) ∧ n = .int .i64 (n' : Int) ∧ n' < 65536 ∧ o.length = N ∧ Lm o ∧ (∀ j, i + (dig B).length ≤ j → o[j]?.getD 0 = 0) ∧ val o + 65536 ^ (i + k) * n' = V + 65536 ^ i * (x * val ((dig B).take k)) ∧
  wr.ownsRow w.heap.size 22 1 (.slice (some ⟨G, 0, none⟩) N N) N (cellsOf o) ∧ Below w.heap.size w wr
theorem set_zero {o : List Nat} {m e v : Nat} (h : ∀ j, m ≤ j → o[j]?.getD 0 = 0) (he : e < m) : ∀ j, m ≤ j → (o.set e v)[j]?.getD 0 = 0 := fun j hj => by
 rw [List.getElem?_set_ne (by omega)]; exact h j hj
theorem refTimes_any (sa sb : Value) (A B : Nat) (ha : (dig A).length ≤ 8192) (hb : (dig B).length ≤ 8192) (w : World) (h : Lim w sa (dig A)) (g : Lim w sb (dig B)) :
    Calls Try.prog 42 #[sa, sb] w fun e w' => (∃ v, e = .returned v ∧ LimF w.heap.size w' v (dig (A * B))) ∧ Below w.heap.size w w' := by
  obtain ⟨i0, hi, hz0, hz1, hz2⟩ := info_parts Try.infoU
  obtain ⟨aa, ca, rfl⟩ := lim_slice h
  obtain ⟨ab, cb, rfl⟩ := lim_slice g
  obtain ⟨N, hN⟩ : ∃ N, N = (dig A).length + (dig B).length := ⟨_, rfl⟩
  have hN2 : N ≤ 16384 := by omega
  have hN3 : (N : Int) ≤ 16384 := by omega
  have hN4 : (N : Int) = ((dig A).length : Int) + ((dig B).length : Int) := by omega
  have haI : ((dig A).length : Int) ≤ 8192 := by omega
  have hbI : ((dig B).length : Int) ≤ 8192 := by omega
  have HA := Lib.hid h
  have HB := Lib.hid g
  have HN := Lib.hid hN
  clear h g hN ha hb
  go_enter Try.func42, Try.ntmps42
  go_wp2_with (at_make; refine wpList_make_full _ rfl _ _ 24 rfl w.heap.size 22 i0 (.int .u16 0) 1 Try.underlying24 hi hz0 hz1 _ _ _ _ N rfl rfl hN4.symm hN4.symm (by rw [hz2]; omega) (by unfold maxLen; omega) (Nat.le_refl _) ?_; intro w1 hown hgrow)
  rw [zeros_made] at hown
  have hB1 := (Below.refl w.heap.size w).grown hgrow (Nat.le_refl _) (fun k e => by cases e)
  clear hgrow
  go_loopw [6] (fun i wr => TimesRel A B N w.heap.size w i wr) (fun i _ => ((dig A).length - intOf i).toNat)
  case atStart => exact ⟨0, List.replicate N 0, Nat.zero_le _, rfl, by simp, Lm.zeros _, fun j _ => by rcases Nat.lt_or_ge j N with h | h <;> simp [h], by rw [val_zeros]; simp, hown, hB1⟩
  case round =>
    clear hown hB1
    obtain ⟨i, o, hil, rfl, hol, hom, hoz, hov, hrow, hB⟩ := hrel
    have HV := Lib.hid hov
    have HO := Lib.hid hol
    have HZ := Lib.hid hoz
    clear hov hol hoz
    rcases Nat.lt_or_ge i (dig A).length with hi1 | hi1
    · have hra := HA.out.below hB (Nat.le_refl _)
      obtain ⟨ba, oa, rfl⟩ := lim_addr hra (by omega)
      have hxl := (dig_Lm A).getD i
      clear hra
      have HX0 := Lib.hid (val_take_next (dig A) i)
      have HXC := Lib.hid (fun W (hW : Below w.heap.size w W) => cell_of_lim (HA.out.below hW (Nat.le_refl _)) i hi1)
      obtain ⟨x, hx⟩ : ∃ u : Nat, u = (dig A)[i]?.getD 0 := ⟨_, rfl⟩
      rw [← hx] at HX0 hxl
      have HXE := Lib.hid hx
      clear hx
      have hi2 : (i : Int) < ((dig A).length : Int) := by omega
      obtain ⟨V, hV⟩ : ∃ V, V = val o := ⟨_, rfl⟩
      have HVV := Lib.hid hV
      clear hV
      have HXL := Lib.hid hxl
      clear hxl
      go_wp2
      go_loopw [7, 8] (fun n kv wr2 => TimesIn B N w.heap.size i x V w n kv wr2) (fun _ kv _ => ((dig B).length - intOf kv).toNat)
      case atStart => exact ⟨0, 0, o, Nat.zero_le _, rfl, rfl, by omega, HO.out, hom, HZ.out, by rw [HVV.out]; simp, hrow, hB⟩
      case round =>
        clear hrow hom HZ HO hB
        obtain ⟨k, n, o2, hkl, rfl, rfl, hnl, hol, hom, hoz, hov, hrow, hB⟩ := hrel
        have HO := Lib.hid hol
        have HZ := Lib.hid hoz
        have HW := Lib.hid hov
        clear hol hoz hov
        rcases Nat.lt_or_ge k (dig B).length with hk1 | hk1
        · have hrb := HB.out.below hB (Nat.le_refl _)
          obtain ⟨bb, ob, rfl⟩ := lim_addr hrb (by omega)
          have hcb := cell_of_lim hrb k hk1
          have hca := HXC.out _ hB
          rw [← HXE.out] at hca
          have hyl := (dig_Lm B).getD k
          have hxl := HXL.out
          clear hrb
          obtain ⟨e, he⟩ : ∃ e : Nat, e = i + k := ⟨_, rfl⟩
          have heN : e < N := by have := HN.out; omega
          have hst := times_step (a := dig A) (b := dig B) (o := o2) (i := i) (k := k) (n := n) (V := V) (by rw [HO.out]; omega) (by rw [← HXE.out]; exact HW.out)
          rw [← HXE.out, ← he] at hst
          have hzl := hom.getD e
          have hfro := hrow.frozenAt e
          have hcell := hrow.cellAt e (by omega)
          rw [cellsOf_get _ _ (by rw [HO.out]; omega)] at hcell
          have HR := Lib.hid hrow
          clear hrow
          obtain ⟨y, hy⟩ : ∃ u : Nat, u = (dig B)[k]?.getD 0 := ⟨_, rfl⟩
          rw [← hy] at hcb hyl hst
          obtain ⟨z, hz⟩ : ∃ u : Nat, u = o2[e]?.getD 0 := ⟨_, rfl⟩
          rw [← hz] at hcell hzl hst
          clear hy hz
          have hbd := times_bound hnl hxl hyl hzl
          obtain ⟨p, hp⟩ : ∃ p : Nat, p = x * y := ⟨_, rfl⟩
          obtain ⟨s, hs⟩ : ∃ s : Nat, s = n + x * y + z := ⟨_, rfl⟩
          rw [← hs] at hst hbd
          have HST := Lib.hid hst
          have w1 : IntKind.i64.wrap ((x : Int) * (y : Int)) = (p : Int) := by
            rw [show (x : Int) * (y : Int) = (p : Int) from by rw [hp]; simp]
            exact IntWalk.i64_in _ (by rw [← hp] at hs; omega)
          have hps : n + p + z = s := by rw [hp]; exact hs.symm
          clear hp hs hst
          have w2 : IntKind.i64.wrap ((n : Int) + (p : Int)) = (n : Int) + (p : Int) := IntWalk.i64_in _ (by omega)
          have w3 : IntKind.i64.wrap ((n : Int) + (p : Int) + (z : Int)) = (s : Int) := by rw [IntWalk.i64_in _ (by omega)]; omega
          have w4 : (i : Int) + (k : Int) = (e : Int) := by omega
          have hxi : (x : Int) ≤ 65535 := by omega
          have hyi : (y : Int) ≤ 65535 := by omega
          have hzi : (z : Int) ≤ 65535 := by omega
          have q3 : IntKind.u16.wrap ((s : Int) % 65536) = ((s % 65536 : Nat) : Int) := by
            rw [show (s : Int) % 65536 = ((s % 65536 : Nat) : Int) from by simp, wrap_u16_nat, Nat.mod_eq_of_lt (by omega)]
          have hk2 : (k : Int) < ((dig B).length : Int) := by omega
          have heN2 : (e : Int) < (N : Int) := by omega
          have hs0 : (s : Int) < 4294967296 := by omega
          have HS := Lib.hid hbd
          have HEE := Lib.hid he
          clear hxl hyl hzl hbd hps he
          go_wp2
          go_quiet (fail)
          go_wp2
          case roundEnd =>
            have hs1 : ∀ t, ((wr.drewN t).setCell ⟨w.heap.size, e, none⟩ (.int .u16 ((s % 65536 : Nat) : Int))).ownsRow w.heap.size 22 1 (.slice (some ⟨w.heap.size, 0, none⟩) N N) N (cellsOf (o2.set e (s % 65536))) := fun t => by
              have h := (show (wr.drewN t).ownsRow w.heap.size 22 1 (.slice (some ⟨w.heap.size, 0, none⟩) N N) N (cellsOf o2) from HR.out).stored e (.int .u16 ((s % 65536 : Nat) : Int))
              rw [cellsOf_set] at h
              exact h.1
            have hl1 := HN.out
            have he := HEE.out
            have hb2 := HS.out
            try rw [show (s : Int) % 65536 = ((s % 65536 : Nat) : Int) from by simp]
            exact ⟨⟨k + 1, s / 65536, o2.set e (s % 65536), hk1, by go_num, by go_num, by omega, by rw [List.length_set]; exact HO.out, hom.set _ (by omega), set_zero HZ.out (by omega), HST.out, hs1 _, (belowN hB _).setCell (Nat.le_refl _) _⟩, by simp [intOf]; omega⟩
        · obtain rfl : k = (dig B).length := by omega
          obtain ⟨e, he⟩ : ∃ e : Nat, e = i + (dig B).length := ⟨_, rfl⟩
          have heN : e < N := by have := HN.out; omega
          have w4 : (i : Int) + ((dig B).length : Int) = (e : Int) := by omega
          have hni : (n : Int) ≤ 65535 := by omega
          have hfro := hrow.frozenAt e
          have hcell := hrow.cellAt e (by omega)
          rw [cellsOf_get _ _ (by rw [HO.out]; omega)] at hcell
          have HR := Lib.hid hrow
          have heN2 : (e : Int) < (N : Int) := by omega
          have hput := val_put (l := o2) (i := e) (x := n) (by rw [HO.out]; exact heN)
          have hz0 := HZ.out e (by omega)
          rw [hz0, Nat.mul_zero, Nat.add_zero, he, HW.out, List.take_of_length_le (Nat.le_refl _), val_dig, HVV.out, HV.out, ← Nat.mul_assoc, ← Nat.add_mul, ← HX0.out, ← he] at hput
          have HP := Lib.hid hput
          have HEE := Lib.hid he
          have HNL := Lib.hid hnl
          clear hrow hput hz0 he hnl
          go_wp2
          have hs1 := (HR.out.stored e (.int .u16 (n : Int))).1
          rw [cellsOf_set] at hs1
          have he := HEE.out
          refine ⟨⟨i + 1, o2.set e n, hi1, by go_num, by rw [List.length_set]; exact HO.out, hom.set _ HNL.out, fun j hj => by rw [List.getElem?_set_ne (by omega)]; exact HZ.out j (by omega), HP.out, hs1, hB.setCell (Nat.le_refl _) _⟩, by simp [intOf]; omega⟩
    · obtain rfl : i = (dig A).length := by omega
      have hi2 : ¬ (((dig A).length : Nat) : Int) < ((dig A).length : Int) := by omega
      have hv2 := HV.out
      rw [List.take_of_length_le (Nat.le_refl _), val_dig] at hv2
      have HE1 := Lib.hid hv2
      have hlim : Lim wr (.slice (some ⟨w.heap.size, 0, none⟩) N N) o := Lim.of_owns hrow (by rw [HO.out]; omega)
      have hfr := Fr.of_owns hrow
      clear hrow hv2
      go_wp2_with fail
      refine (refTrim_any _ o hom _ hlim).mono ?_
      rintro e w2 ⟨⟨vq, rfl, hq, hqf⟩, hb2⟩
      have hB2 := hB.trans (hb2.mono hB.size)
      have HQ : Hid (LimF w.heap.size w2 vq (dig (A * B))) := Lib.hid (by rw [← HE1.out]; exact ⟨hq, hqf _ hfr⟩)
      clear hq hqf hfr hb2 hlim
      go_wp2
      go_ret
      exact ⟨⟨_, rfl, HQ.out⟩, hB2⟩
end Go.Proofs.Ytmbcnfogjncdaaa
