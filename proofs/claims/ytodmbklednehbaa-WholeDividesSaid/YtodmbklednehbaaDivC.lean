/-
'WholeDivides' for numbers that are valid and short enough.
-/
import Derived.Test.YtodmbklednehbaaDivides
import Derived.Test.YtodmbklednehbaaDivZ
namespace Go.Proofs.Ytodmbklednehbaa
open Go.RowKit Wh

theorem WholeDivides_core (a b : Int) (sa : Sz 200 a) (sb : Sz 200 b) (bia : Bool) (aia : Option Addr) (kia cia : Nat) (bib : Bool) (aib : Option Addr) (kib cib : Nat) (w : World) (ia : Num w (.agg #[.bool bia, .slice aia kia cia]) a) (ib : Num w (.agg #[.bool bib, .slice aib kib cib]) b) :
    Calls Try.prog 5 #[.agg #[.bool bia, .slice aia kia cia], .agg #[.bool bib, .slice aib kib cib]] w fun e w' => e = .returned (.bool true) ∧ Below w.heap.size w w' := by
  by_cases hb0 : b = 0
  · exact WholeDivides_zero a b sa sb bia aia kia cia bib aib kib cib hb0 w ia ib
  · exact WholeDivides_some a b sa sb bia aia kia cia bib aib kib cib hb0 w ia ib

end Go.Proofs.Ytodmbklednehbaa
