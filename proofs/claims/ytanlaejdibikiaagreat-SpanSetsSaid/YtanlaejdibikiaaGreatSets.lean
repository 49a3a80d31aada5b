/-
'SpanSets': the walk, given ApartSpans.
-/
import Derived.Test.YtanlaejdibikiaaGreatBoth
namespace Go.Proofs.YtanlaejdibikiaaGreat
open Go.RowKit Go.Shelf Sp

set_option maxRecDepth 100000 in
set_option maxHeartbeats 8000000 in
theorem SpanSets_walk0 (HAP : Aparts) (va vb : Value) (a b : L) (w : World) (h : Spn w va a) (h' : Spn w vb b) : Calls Tryz.prog 3 #[va, vb] w (Says (.bool true) w) := by
  have HF := Lib.hid (Few_any va a w h)
  have HG := Lib.hid (Few_any vb b w h')
  by_cases ha : a.length ≤ 100
  · rw [decide_eq_true ha] at HF
    by_cases hb : b.length ≤ 100
    · rw [decide_eq_true hb] at HG
      have HM := Lib.hid (both_any HAP va vb a b ha hb w h h')
      clear h h' ha hb HAP
      go_enter Tryz.func3, Tryz.ntmps3
      go_wp2_with fail
      refine HF.out.mono ?_
      rintro e w1 ⟨rfl, rfl⟩
      go_wp2_with fail
      refine HG.out.mono ?_
      rintro e w1 ⟨rfl, rfl⟩
      go_wp2_with fail
      refine HM.out.mono ?_
      rintro e w1 ⟨rfl, hb1⟩
      have HB := Lib.hid hb1
      clear hb1
      go_wp2_with fail
      refine (awake_any _).mono ?_
      rintro e w2 ⟨rfl, hb2⟩
      have HB2 := Lib.hid (HB.out.trans (hb2.mono HB.out.size))
      clear hb2
      go_wp2
      go_ret
      exact ⟨rfl, HB2.out⟩
    · rw [decide_eq_false hb] at HG
      clear h h' ha hb HAP
      go_enter Tryz.func3, Tryz.ntmps3
      go_wp2_with fail
      refine HF.out.mono ?_
      rintro e w1 ⟨rfl, rfl⟩
      go_wp2_with fail
      refine HG.out.mono ?_
      rintro e w1 ⟨rfl, rfl⟩
      go_wp2_with fail
      refine (awake_any _).mono ?_
      rintro e w2 ⟨rfl, hb2⟩
      have HB2 := Lib.hid hb2
      clear hb2
      go_wp2
      go_ret
      exact ⟨rfl, HB2.out⟩
  · rw [decide_eq_false ha] at HF
    clear h h' ha HAP HG
    go_enter Tryz.func3, Tryz.ntmps3
    go_wp2_with fail
    refine HF.out.mono ?_
    rintro e w1 ⟨rfl, rfl⟩
    go_wp2_with fail
    refine (awake_any _).mono ?_
    rintro e w2 ⟨rfl, hb2⟩
    have HB2 := Lib.hid hb2
    clear hb2
    go_wp2
    go_ret
    exact ⟨rfl, HB2.out⟩

end Go.Proofs.YtanlaejdibikiaaGreat
