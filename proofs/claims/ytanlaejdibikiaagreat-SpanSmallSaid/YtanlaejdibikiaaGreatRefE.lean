/-
The reference's Nth.
-/
import Derived.Test.YtanlaejdibikiaaGreatRefD
namespace Go.Proofs.YtanlaejdibikiaaGreat
open Go.RowKit Go.Shelf Sp

theorem nth_at {l : L} (h : IsSet l) {d : Nat} (hd : d < 65536) (hm : memB l d = true) : nthO l (cnt (memB l) d) = some (d : Int) := by
  have := nthO_before h ((memB_iff l d).1 hm)
  rwa [beforeN_clamp h (by omega), show (min (max (d : Int) 0) 65536).toNat = d from by omega] at this
theorem nth_end {l : L} (h : IsSet l) {n : Int} (hn : 0 ≤ n) (hc : cnt (memB l) 65536 ≤ n) : nthO l n = none := by
  have := nthO_lt h hn
  rw [beforeN_all h (Int.le_refl _), decide_eq_false (by omega)] at this
  simpa using this

set_option maxRecDepth 100000 in
set_option maxHeartbeats 8000000 in
theorem RNth_yes (v : Value) (l : L) (n : Int) (h0 : 0 ≤ n) (h9 : n ≤ 9223372036854775807) (hl : IsSet l) (w : World) (h : Spn w v l) : Calls Tryz.prog 32 #[v, .int .i64 n] w (Says (nthV (nthO l n)) w) := by
  have hv := RValid_any v l w h
  rw [(vldB_iff l).2 hl] at hv
  have HV := Lib.hid hv
  have HG := Lib.hid (fun W (hW : Below w.heap.size w W) => Marks_ok v l (allOk_set hl) W (h.below hW (Nat.le_refl _)))
  have HA := Lib.hid (fun (d : Nat) (hd : d < 65536) (hm : memB l d = true) => nth_at hl hd hm)
  have HZ := Lib.hid (fun (hc : cnt (memB l) 65536 ≤ n) => nth_end hl h0 hc)
  clear h hl hv
  go_enter Tryz.func32, Tryz.ntmps32
  go_wp2_with fail
  refine HV.out.mono ?_
  rintro e w1 ⟨rfl, hb1⟩
  have HB := Lib.hid hb1
  clear hb1
  go_wp2_with fail
  refine (HG.out _ HB.out).mono ?_
  rintro e w2 ⟨⟨g, hg, rfl, hR⟩, hb2⟩
  have HR := Lib.hid hR
  have hgw := hR.lt
  have HE := Lib.hid (HB.out.trans (hb2.mono HB.out.size))
  clear hb2 hg hR HB
  go_wp2_with fail
  go_loopw [1, 7] (fun c i wr => ∃ d : Nat, d ≤ 65536 ∧ i = .int .i64 d ∧ c = .int .i64 (n - cnt (memB l) d) ∧ 0 ≤ n - cnt (memB l) d ∧ wr = w2) (fun _ i _ => 65536 - (intOf i).toNat)
  case atStart => exact ⟨0, by omega, rfl, by simp [cnt], by simp [cnt]; omega, rfl⟩
  case round =>
    obtain ⟨d, hd, rfl, rfl, hz0, rfl⟩ := hrel
    have hcb := cnt_le (memB l) d
    by_cases h1 : d < 65536
    · have h1' : (d : Int) < 65536 := by omega
      have c1 := HR.out.cell (i := d) h1
      rcases Bool.eq_false_or_eq_true (memB l d) with hm | hm
      · rw [hm] at c1
        have HN : Hid (cnt (memB l) (d + 1) = cnt (memB l) d + 1) := Lib.hid (by rw [cnt, if_pos hm])
        by_cases he : n - cnt (memB l) d = 0
        · have hs := HA.out d h1 hm
          rw [show cnt (memB l) d = n from by omega] at hs
          have HS := Lib.hid hs
          rw [he]
          clear hs hm he hz0 hcb
          go_wp2
          go_ret2
          exact ⟨by rw [HS.out]; rfl, HE.out⟩
        · obtain ⟨z, hz⟩ : ∃ z, z = n - cnt (memB l) d := ⟨_, rfl⟩
          have hcn : n - cnt (memB l) (d + 1) = z - 1 := by rw [HN.out]; omega
          have HCN := Lib.hid hcn
          have hz1 : 0 < z := by omega
          have hz9 : z ≤ 9223372036854775807 := by omega
          rw [← hz] at he ⊢
          have hbq : (z == 0) = false := by simpa using he
          clear hm hcn HN hz0 hcb hz he
          go_wp2
          go_roundw
          case rel => exact ⟨d + 1, by omega, by go_num, by rw [HCN.out], by rw [HCN.out]; omega, trivial⟩
          case measure => simp [intOf]; omega
      · rw [hm] at c1
        have HN : Hid (cnt (memB l) (d + 1) = cnt (memB l) d) := Lib.hid (by rw [cnt, if_neg (by rw [hm]; decide)]; omega)
        obtain ⟨z, hz⟩ : ∃ z, z = n - cnt (memB l) d := ⟨_, rfl⟩
        have HCN : Hid (n - cnt (memB l) (d + 1) = z) := Lib.hid (by rw [HN.out]; omega)
        rw [← hz] at hz0 ⊢
        clear hm hz HN hcb
        go_wp2
        go_roundw
        case rel => exact ⟨d + 1, by omega, by go_num, by rw [HCN.out], by rw [HCN.out]; omega, trivial⟩
        case measure => simp [intOf]; omega
    · obtain rfl : d = 65536 := by omega
      have HS := Lib.hid (HZ.out (by omega))
      go_wp2
      go_ret2
      exact ⟨by rw [HS.out]; rfl, HE.out⟩

/-- A negative number, k times one less: what an int of 64 bits shows. -/
def NegInv (n : Int) (k : Nat) (x : Int) : Prop := (x = n - k ∧ -9223372036854775808 ≤ x) ∨ (x = n - k + 18446744073709551616 ∧ x ≤ 9223372036854775807)
theorem NegInv.ne {n x : Int} {k : Nat} (h : NegInv n k x) (h0 : n < 0) (h9 : -9223372036854775808 ≤ n) (hk : k ≤ 65536) : ¬ x = 0 := by
  rcases h with h | h <;> omega
theorem NegInv.next {n x : Int} {k : Nat} (h : NegInv n k x) (h0 : n < 0) (h9 : -9223372036854775808 ≤ n) (hk : k ≤ 65536) : NegInv n (k + 1) (IntKind.i64.wrap (x - 1)) := by
  rcases h with ⟨h, h'⟩ | ⟨h, h'⟩
  · by_cases hx : x = -9223372036854775808
    · right
      rw [hx, show IntKind.i64.wrap (-9223372036854775808 - 1) = 9223372036854775807 from by decide]
      omega
    · left
      rw [IntWalk.i64_in _ (by omega)]
      omega
  · right
    rw [IntWalk.i64_in _ (by omega)]
    omega

set_option maxRecDepth 100000 in
set_option maxHeartbeats 8000000 in
theorem RNth_neg (v : Value) (l : L) (n : Int) (h0 : n < 0) (h9 : -9223372036854775808 ≤ n) (hl : IsSet l) (w : World) (h : Spn w v l) : Calls Tryz.prog 32 #[v, .int .i64 n] w (Says (.tuple #[.int .i64 0, .bool false]) w) := by
  have hv := RValid_any v l w h
  rw [(vldB_iff l).2 hl] at hv
  have HV := Lib.hid hv
  have HG := Lib.hid (fun W (hW : Below w.heap.size w W) => Marks_ok v l (allOk_set hl) W (h.below hW (Nat.le_refl _)))
  have H0 := Lib.hid h0
  have H9 := Lib.hid h9
  clear h hl hv h0 h9
  go_enter Tryz.func32, Tryz.ntmps32
  go_wp2_with fail
  refine HV.out.mono ?_
  rintro e w1 ⟨rfl, hb1⟩
  have HB := Lib.hid hb1
  clear hb1
  go_wp2_with fail
  refine (HG.out _ HB.out).mono ?_
  rintro e w2 ⟨⟨g, hg, rfl, hR⟩, hb2⟩
  have HR := Lib.hid hR
  have hgw := hR.lt
  have HE := Lib.hid (HB.out.trans (hb2.mono HB.out.size))
  clear hb2 hg hR HB
  go_wp2_with fail
  go_loopw [1, 7] (fun c i wr => ∃ (d k : Nat) (x : Int), d ≤ 65536 ∧ k ≤ d ∧ i = .int .i64 d ∧ c = .int .i64 x ∧ Hid (NegInv n k x) ∧ wr = w2) (fun _ i _ => 65536 - (intOf i).toNat)
  case atStart => exact ⟨0, 0, n, by omega, by omega, rfl, rfl, Lib.hid (.inl ⟨by omega, H9.out⟩), rfl⟩
  case round =>
    obtain ⟨d, k, x, hd, hk, rfl, rfl, HI, rfl⟩ := hrel
    by_cases h1 : d < 65536
    · have h1' : (d : Int) < 65536 := by omega
      have c1 := HR.out.cell (i := d) h1
      rcases Bool.eq_false_or_eq_true (memB l d) with hm | hm
      · rw [hm] at c1
        have hne := HI.out.ne H0.out H9.out (by omega)
        have HN := Lib.hid (HI.out.next H0.out H9.out (by omega))
        obtain ⟨y, hy⟩ : ∃ y, IntKind.i64.wrap (x - 1) = y := ⟨_, rfl⟩
        rw [hy] at HN
        have hbq : (x == 0) = false := by simpa using hne
        clear hm hne
        go_wp2
        go_roundw
        case rel => exact ⟨d + 1, k + 1, y, by omega, by omega, by go_num, rfl, HN, trivial⟩
        case measure => simp [intOf]; omega
      · rw [hm] at c1
        clear hm
        go_wp2
        go_roundw
        case rel => exact ⟨d + 1, k, x, by omega, by omega, by go_num, rfl, HI, trivial⟩
        case measure => simp [intOf]; omega
    · obtain rfl : d = 65536 := by omega
      go_wp2
      go_ret2
      exact ⟨rfl, HE.out⟩

end Go.Proofs.YtanlaejdibikiaaGreat
