/-
Nth.
-/
import Derived.Test.YtanlaejdibikiaaGreatFind
namespace Go.Proofs.YtanlaejdibikiaaGreat
open Go.RowKit Go.Shelf Sp

def nthV (o : Option Int) : Value := match o with | some d => .tuple #[.int .i64 d, .bool true] | none => .tuple #[.int .i64 0, .bool false]

set_option maxRecDepth 100000 in
set_option maxHeartbeats 4000000 in
theorem Nth_yes (v : Value) (l : L) (n : Int) (h0 : 0 ≤ n) (h1 : n ≤ 9223372036854775807) (hl : IsSet l) (w : World) (h : Spn w v l) : Calls Tryz.prog 26 #[v, .int .i64 n] w (Says (nthV (nthO l n)) w) := by
  have hv := fun W (hW : Below w.heap.size w W) => Valid_any v l W (h.below hW (Nat.le_refl _))
  rw [(vldB_iff l).2 hl] at hv
  have HV := Lib.hid hv
  have HF := Lib.hid (fun B W (hW : Below w.heap.size w W) (hB : w.heap.size ≤ B) (hb : Boxed W B 3 (.int .i64 n)) => find_nth v l hl n h0 h1 B w W h hW hB hb)
  obtain ⟨a, cap, rfl, -⟩ := h
  clear hl hv
  have hn : ¬ n < 0 := by omega
  cases ho : nthO l n with
  | some d =>
    rw [ho] at HF
    clear ho
    go_enter Tryz.func26, Tryz.ntmps26
    go_wp2_with fail
    refine (HV.out _ (Below.refl _ _)).mono ?_
    rintro e w1 ⟨rfl, hb1⟩
    have HX := Lib.hid (Boxed.new w1 3 (.int .i64 n))
    have HB := Lib.hid (hb1.alloc hb1.size (.cells #[.int .i64 n] 3))
    have hs1 := hb1.size
    clear hb1
    go_wp2_with fail
    refine (HF.out w1.heap.size _ HB.out hs1 HX.out).mono ?_
    rintro e w2 ⟨⟨p, q, r, rfl, hbx, hpr, p0, p1, r0, r1⟩, hb2, hs2⟩
    have HE := Lib.hid ((HB.out.trans hb2).alloc (HB.out.trans hb2).size (.cells #[.int .i64 p, .int .i64 q] 31))
    have hbx2 := (Boxed.alloc hbx (.cells #[.int .i64 p, .int .i64 q] 31)).cell
    have hpr := Lib.hid hpr
    clear hbx hb2
    go_wp2
    go_ret2
    exact ⟨by rw [← hpr.out]; rfl, HE.out⟩
  | none =>
    rw [ho] at HF
    clear ho
    go_enter Tryz.func26, Tryz.ntmps26
    go_wp2_with fail
    refine (HV.out _ (Below.refl _ _)).mono ?_
    rintro e w1 ⟨rfl, hb1⟩
    have HX := Lib.hid (Boxed.new w1 3 (.int .i64 n))
    have HB := Lib.hid (hb1.alloc hb1.size (.cells #[.int .i64 n] 3))
    have hs1 := hb1.size
    clear hb1
    go_wp2_with fail
    refine (HF.out w1.heap.size _ HB.out hs1 HX.out).mono ?_
    rintro e w2 ⟨⟨p, q, rfl⟩, hb2, hs2⟩
    have HE := Lib.hid ((HB.out.trans hb2).alloc (HB.out.trans hb2).size (.cells #[.int .i64 p, .int .i64 q] 31))
    clear hb2
    go_wp2
    go_ret2
    exact ⟨rfl, HE.out⟩

set_option maxHeartbeats 2000000 in
theorem Nth_no (v : Value) (l : L) (n : Int) (hl : ¬ IsSet l ∨ n < 0) (w : World) (h : Spn w v l) : Calls Tryz.prog 26 #[v, .int .i64 n] w (Says (.tuple #[.int .i64 0, .bool false]) w) := by
  have hv := fun W (hW : Below w.heap.size w W) => Valid_any v l W (h.below hW (Nat.le_refl _))
  by_cases hs : IsSet l
  · rw [(vldB_iff l).2 hs] at hv
    have HV := Lib.hid hv
    obtain ⟨a, cap, rfl, -⟩ := h
    have hn : n < 0 := hl.resolve_left (fun e => e hs)
    clear hl hv hs
    go_enter Tryz.func26, Tryz.ntmps26
    go_wp2_with fail
    refine (HV.out _ (Below.refl _ _)).mono ?_
    rintro e w1 ⟨rfl, hb1⟩
    go_wp2
    go_ret2
    exact ⟨rfl, hb1⟩
  · rw [(vldB_not l).2 hs] at hv
    have HV := Lib.hid hv
    obtain ⟨a, cap, rfl, -⟩ := h
    clear hl hv hs
    go_enter Tryz.func26, Tryz.ntmps26
    go_wp2_with fail
    refine (HV.out _ (Below.refl _ _)).mono ?_
    rintro e w1 ⟨rfl, hb1⟩
    go_wp2
    go_ret2
    exact ⟨rfl, hb1⟩

end Go.Proofs.YtanlaejdibikiaaGreat
