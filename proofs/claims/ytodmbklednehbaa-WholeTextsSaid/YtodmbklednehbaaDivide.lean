/-
'divide': quotient and rest, whatever the numbers.
-/
import Derived.Test.YtodmbklednehbaaDivB
namespace Go.Proofs.Ytodmbklednehbaa
open Go.RowKit Wh

theorem divide_any (sa sb : Value) (m n : Nat) (hn0 : n ≠ 0) (hm : (dig m).length ≤ 16384) (w : World) (h : Lim w sa (dig m)) (g : Lim w sb (dig n)) :
    Calls Try.prog 56 #[sa, sb] w fun e w' => (∃ vq vr, e = .returned (.tuple #[vq, vr]) ∧ LimF w.heap.size w' vq (dig (m / n)) ∧ LimF w.heap.size w' vr (dig (m % n))) ∧ Below w.heap.size w w' := by
  rcases Nat.lt_or_ge m n with h1 | h1
  · exact divide_less sa sb m n h1 w h g
  rcases Nat.lt_or_ge 3 (dig n).length with h2 | h2
  · exact callsIn_wide.1 (divide_long sa sb m n ((dig n).length - 2) h1 (by omega) (by omega) hm w h g)
  · exact divide_short sa sb m n h1 hn0 h2 (by omega) w h g

end Go.Proofs.Ytodmbklednehbaa
