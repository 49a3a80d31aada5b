/- A part of the proofs about fractions. -/
import Derived.Test.YthlclegajldphaaGreatQz1
import Derived.Test.YthlclegajldphaaGreatQz2
import Derived.Test.YthlclegajldphaaGreatQz3
import Derived.Test.YthlclegajldphaaGreatQz4
import Derived.Test.YthlclegajldphaaGreatQz5
import Derived.Test.YthlclegajldphaaGreatQz6
import Derived.Test.YthlclegajldphaaGreatQz7
import Derived.Test.YthlclegajldphaaGreatQz8
import Derived.Test.YthlclegajldphaaGreatQz9
import Derived.Test.YthlclegajldphaaGreatQz10
import Derived.Test.YthlclegajldphaaGreatQz11
import Derived.Test.YthlclegajldphaaGreatQz12
import Derived.Test.YthlclegajldphaaGreatQz13
import Derived.Test.YthlclegajldphaaGreatQz14
import Derived.Test.YthlclegajldphaaGreatQz15
import Derived.Test.YthlclegajldphaaGreatQz16
import Derived.Test.YthlclegajldphaaGreatQz17
import Derived.Test.YthlclegajldphaaGreatQz18
import Derived.Test.YthlclegajldphaaGreatQz19
import Derived.Test.YthlclegajldphaaGreatQz20
import Derived.Test.YthlclegajldphaaGreatQz21
import Derived.Test.YthlclegajldphaaGreatQz22
import Derived.Test.YthlclegajldphaaGreatQz23
import Derived.Test.YthlclegajldphaaGreatQz24
import Derived.Test.YthlclegajldphaaGreatQz25
import Derived.Test.YthlclegajldphaaGreatQz26
import Derived.Test.YthlclegajldphaaGreatQz27
import Derived.Test.YthlclegajldphaaGreatQz28
import Derived.Test.YthlclegajldphaaGreatRows
namespace Go.Proofs.YthlclegajldphaaGreat
open Go.RowKit Wh
set_option maxRecDepth 100000 in
set_option maxHeartbeats 1000000 in
theorem Int_more (v : Value) (z : Int) (hs : Sz 1024 z) (h4 : 4 < (dig z.natAbs).length) (w : World) (h' : Num w v z) :
    Calls Tryz.prog 109 #[v] w fun e w' => e = .returned (.tuple #[.int .i64 0, .int .i64 3]) ∧ Below w.heap.size w w' := by
  obtain ⟨s, rfl, h⟩ := h'
  have hw1 := fun B W (h0 : W.cell? ⟨B, 0, none⟩ = some (.bool (decide (z < 0)))) (h1 : W.cell? ⟨B, 1, none⟩ = some s) (hW : Below w.heap.size w W) => allValid_one B _ s _ W h0 h1 (h.below hW (Nat.le_refl _))
  rw [vld_num z (hs.len (by decide))] at hw1
  have HW1 := Lib.hid hw1
  obtain ⟨aa, ca, rfl⟩ := lim_slice h
  clear hw1 h hs
  obtain ⟨ja, hja⟩ : ∃ n, n = (dig z.natAbs).length := ⟨_, rfl⟩
  rw [← hja] at HW1 h4 ⊢
  clear hja
  have hl4' : 4 < (ja : Int) := by omega
  clear h4
  obtain ⟨na, hna⟩ : ∃ n, n = decide (z < 0) := ⟨_, rfl⟩
  rw [← hna] at HW1 ⊢
  clear hna
  have hz := ((Below.refl w.heap.size w).alloc (Nat.le_refl _) (.cells #[.bool na, .slice aa ja ca] 24)).alloc (by simp) (.cells #[.bool na, .slice aa ja ca] 24)
  have x2 := (Bx.new w (.bool na) (.slice aa ja ca)).alloc (.cells #[.bool na, .slice aa ja ca] 24)
  have hr := (Bx.new (w.alloc (.cells #[.bool na, .slice aa ja ca] 24)) (.bool na) (.slice aa ja ca)).cells
  simp only [World.size_alloc] at hr
  have HR := Lib.hid hr
  clear hr
  go_enter Tryz.func109, Tryz.ntmps109
  go_wp2_with (go_at_call 119; refine (HW1.out _ _ HR.out.1 HR.out.2 hz).mono ?_; rintro e w2 ⟨rfl, hb2⟩; have hB2 := hz.trans (hb2.mono hz.size); have z2 := x2.on hb2; obtain ⟨p2, p2'⟩ := z2.cells)
  go_ret2
  exact ⟨rfl, hB2⟩
set_option maxRecDepth 100000 in
set_option maxHeartbeats 1000000 in
theorem Int_edge (v : Value) (z : Int) (hl4 : (dig z.natAbs).length ≤ 4) (hr : z < -9223372036854775808 ∨ 9223372036854775807 < z) (w : World) (h' : Num w v z) :
    Calls Tryz.prog 109 #[v] w fun e w' => e = .returned (.tuple #[.int .i64 0, .int .i64 3]) ∧ Below w.heap.size w w' := by
  obtain ⟨s, rfl, h⟩ := h'
  have hlt : z.natAbs < 18446744073709551616 := (length_dig_le _ 4).1 hl4
  have hw1 := fun B W (h0 : W.cell? ⟨B, 0, none⟩ = some (.bool (decide (z < 0)))) (h1 : W.cell? ⟨B, 1, none⟩ = some s) (hW : Below w.heap.size w W) => allValid_one B _ s _ W h0 h1 (h.below hW (Nat.le_refl _))
  rw [vld_num z (by omega)] at hw1
  have HW1 := Lib.hid hw1
  have hw2 := fun W (hW : Below w.heap.size w W) => word_any s (dig z.natAbs) (dig_Lm _) W (h.below hW (Nat.le_refl _))
  rw [val_dig, Nat.mod_eq_of_lt hlt] at hw2
  have HW2 := Lib.hid hw2
  obtain ⟨aa, ca, rfl⟩ := lim_slice h
  clear hw1 hw2 h
  obtain ⟨ja, hja⟩ : ∃ n, n = (dig z.natAbs).length := ⟨_, rfl⟩
  rw [← hja] at HW1 HW2 hl4 ⊢
  clear hja
  have hl4' : ¬ (4 < (ja : Int)) := by omega
  clear hl4
  obtain ⟨na, hna⟩ : ∃ n, n = decide (z < 0) := ⟨_, rfl⟩
  rw [← hna] at HW1 ⊢
  have hz := ((Below.refl w.heap.size w).alloc (Nat.le_refl _) (.cells #[.bool na, .slice aa ja ca] 24)).alloc (by simp) (.cells #[.bool na, .slice aa ja ca] 24)
  have x2 := (Bx.new w (.bool na) (.slice aa ja ca)).alloc (.cells #[.bool na, .slice aa ja ca] 24)
  have hr2 := (Bx.new (w.alloc (.cells #[.bool na, .slice aa ja ca] 24)) (.bool na) (.slice aa ja ca)).cells
  simp only [World.size_alloc] at hr2
  have HR := Lib.hid hr2
  clear hr2
  obtain ⟨m, hm⟩ : ∃ m, m = z.natAbs := ⟨_, rfl⟩
  rw [← hm] at HW2
  cases na with
  | true =>
    have hneg := of_decide_eq_true hna.symm
    have hm1 : ¬ (m : Int) ≤ 9223372036854775808 := by omega
    clear hneg hna hm hr hlt
    go_enter Tryz.func109, Tryz.ntmps109
    go_wp2_with (first
      | (go_at_call 119; refine (HW1.out _ _ HR.out.1 HR.out.2 hz).mono ?_; rintro e w2 ⟨rfl, hb2⟩; have hB2 := hz.trans (hb2.mono hz.size); have z2 := x2.on hb2; obtain ⟨p2, p2'⟩ := z2.cells)
      | (go_at_call 151; refine (HW2.out _ hB2).mono ?_; rintro e w3 ⟨rfl, hb3⟩; have hB3 := hB2.trans (hb3.mono hB2.size); have z3 := z2.on hb3; obtain ⟨q2, q2'⟩ := z3.cells))
    go_ret2
    exact ⟨rfl, hB3⟩
  | false =>
    have hneg := of_decide_eq_false hna.symm
    have hm1 : 9223372036854775807 < (m : Int) := by omega
    clear hneg hna hm hr hlt
    go_enter Tryz.func109, Tryz.ntmps109
    go_wp2_with (first
      | (go_at_call 119; refine (HW1.out _ _ HR.out.1 HR.out.2 hz).mono ?_; rintro e w2 ⟨rfl, hb2⟩; have hB2 := hz.trans (hb2.mono hz.size); have z2 := x2.on hb2; obtain ⟨p2, p2'⟩ := z2.cells)
      | (go_at_call 151; refine (HW2.out _ hB2).mono ?_; rintro e w3 ⟨rfl, hb3⟩; have hB3 := hB2.trans (hb3.mono hB2.size); have z3 := z2.on hb3; obtain ⟨q2, q2'⟩ := z3.cells))
    go_ret2
    exact ⟨rfl, hB3⟩
theorem Int_long (v : Value) (z : Int) (hs : Sz 1024 z) (hr : z < -9223372036854775808 ∨ 9223372036854775807 < z) (w : World) (h' : Num w v z) :
    Calls Tryz.prog 109 #[v] w fun e w' => e = .returned (.tuple #[.int .i64 0, .int .i64 3]) ∧ Below w.heap.size w w' := by
  by_cases h4 : (dig z.natAbs).length ≤ 4
  · exact Int_edge v z h4 hr w h'
  · exact Int_more v z hs (by omega) w h'
set_option maxRecDepth 100000 in
set_option maxHeartbeats 1000000 in
theorem frInt_long (b : Bool) (a : Option Addr) (k c : Nat) (b' : Bool) (a' : Option Addr) (k' c' : Nat) (q : Rat) (hq : Fz 256 256 q) (hd : q.den = 1) (hr : q.num < -9223372036854775808 ∨ 9223372036854775807 < q.num) (w : World) (h : Fra w (.agg #[.bool b, .slice a k c, .bool b', .slice a' k' c']) q) :
    Calls Tryz.prog 40 #[.agg #[.bool b, .slice a k c, .bool b', .slice a' k' c']] w fun e w' => e = .returned (.tuple #[.int .i64 0, .int .i64 3]) ∧ Below w.heap.size w w' := by
  have HV := Lib.hid (fun W (hW : Below w.heap.size w W) => valid_ok (.agg #[.bool b, .slice a k c, .bool b', .slice a' k' c']) q hq W (h.below hW (Nat.le_refl _)))
  obtain ⟨eb, eb', n1, n2⟩ := fra_nums h
  obtain ⟨hq, -⟩ := hq
  have ho := fun W (hW : Below w.heap.size w W) => isOne_num _ (q.den : Int) W (n2.below hW (Nat.le_refl _))
  rw [show decide ((q.den : Int) = 1) = true from decide_eq_true (by omega)] at ho
  have HO := Lib.hid ho
  have HI := Lib.hid (fun W (hW : Below w.heap.size w W) => Int_long _ q.num (hq.mono (by decide)) hr W (n1.below hW (Nat.le_refl _)))
  clear h n1 n2 eb eb' ho hr hq
  have hB := Below.refl w.heap.size w
  obtain ⟨al, xa, hN⟩ := mk hB #[.bool b, .slice a k c, .bool b', .slice a' k' c'] 26
  replace hB := hN
  clear al hN
  try simp only [World.size_alloc] at xa
  go_enter Tryz.func40, Tryz.ntmps40
  obtain ⟨al, xx, hN⟩ := mk hB #[.bool b, .slice a k c, .bool b', .slice a' k' c'] 85
  replace xa := xa.on al
  replace hB := hN
  clear al hN
  try simp only [World.size_alloc] at xx
  have pa := xa.all4
  have px := xx.all4
  have lta := xa.lt
  have ltx := xx.lt
  go_wp2_with fail
  clear lta
  clear ltx
  clear pa px
  refine (HV.out _ hB).mono ?_
  rintro e w1 ⟨rfl, hb⟩
  replace xa := xa.on hb
  replace xx := xx.on hb
  have hz1 := hb.size
  try simp at hz1
  replace hB := hB.trans (hb.mono hB.size)
  clear hb
  clear xa
  have px := xx.all4
  have ltx := xx.lt
  go_wp2_with fail
  clear ltx
  clear px
  refine (HO.out _ hB).mono ?_
  rintro e w2 ⟨rfl, hb⟩
  replace xx := xx.on hb
  have hz2 := hb.size
  try simp at hz2
  replace hB := hB.trans (hb.mono hB.size)
  clear hb
  have px := xx.all4
  have ltx := xx.lt
  go_wp2_with fail
  clear ltx
  clear px
  refine (HI.out _ hB).mono ?_
  rintro e w3 ⟨rfl, hb⟩
  replace xx := xx.on hb
  have hz3 := hb.size
  try simp at hz3
  replace hB := hB.trans (hb.mono hB.size)
  clear hb
  have px := xx.all4
  have ltx := xx.lt
  have HB := Lib.hid hB
  clear hB
  go_wp2
  exact bodyPost_ret (v := .tuple #[.int .i64 0, .int .i64 3]) (by simp [results, Tryz.results40, go_sem]) rfl ⟨rfl, HB.out⟩
end Go.Proofs.YthlclegajldphaaGreat
