/- A part of the proofs about fractions. -/
import Derived.Test.YtnnnhjgmgomlpaaGreatQz1
import Derived.Test.YtnnnhjgmgomlpaaGreatQz2
import Derived.Test.YtnnnhjgmgomlpaaGreatQz3
import Derived.Test.YtnnnhjgmgomlpaaGreatQz4
import Derived.Test.YtnnnhjgmgomlpaaGreatQz5
import Derived.Test.YtnnnhjgmgomlpaaGreatQz6
import Derived.Test.YtnnnhjgmgomlpaaGreatQz7
import Derived.Test.YtnnnhjgmgomlpaaGreatQz8
import Derived.Test.YtnnnhjgmgomlpaaGreatQz9
import Derived.Test.YtnnnhjgmgomlpaaGreatQz10
import Derived.Test.YtnnnhjgmgomlpaaGreatQz11
import Derived.Test.YtnnnhjgmgomlpaaGreatQz12
import Derived.Test.YtnnnhjgmgomlpaaGreatQz13
import Derived.Test.YtnnnhjgmgomlpaaGreatQz14
import Derived.Test.YtnnnhjgmgomlpaaGreatQz15
import Derived.Test.YtnnnhjgmgomlpaaGreatQz16
import Derived.Test.YtnnnhjgmgomlpaaGreatQz17
import Derived.Test.YtnnnhjgmgomlpaaGreatQz18
import Derived.Test.YtnnnhjgmgomlpaaGreatQz19
import Derived.Test.YtnnnhjgmgomlpaaGreatQz20
import Derived.Test.YtnnnhjgmgomlpaaGreatQz21
import Derived.Test.YtnnnhjgmgomlpaaGreatQz22
import Derived.Test.YtnnnhjgmgomlpaaGreatQz23
import Derived.Test.YtnnnhjgmgomlpaaGreatQz24
import Derived.Test.YtnnnhjgmgomlpaaGreatQz25
import Derived.Test.YtnnnhjgmgomlpaaGreatQz26
import Derived.Test.YtnnnhjgmgomlpaaGreatQz27
import Derived.Test.YtnnnhjgmgomlpaaGreatQz28
import Derived.Test.YtnnnhjgmgomlpaaGreatQz29
import Derived.Test.YtnnnhjgmgomlpaaGreatQz30
import Derived.Test.YtnnnhjgmgomlpaaGreatQz31
import Derived.Test.YtnnnhjgmgomlpaaGreatRows
namespace Go.Proofs.YtnnnhjgmgomlpaaGreat
open Go.RowKit Wh
theorem divInt_one (z : Int) : Rat.divInt z 1 = (z : Rat) := by
  obtain ⟨h1, h2⟩ := Fq.num_den_of (n := z) (d := 1) (by decide) (by simp)
  exact Fq.ext (by rw [h1, Rat.num_intCast]) (by rw [Rat.den_intCast]; omega)
theorem Same_lit2 (va vb : Value) (p q : Int) (r : Bool) (hr : decide (p = q) = r) (w : World) (h : Num w va p) (g : Num w vb q) :
    Calls Tryz.prog 56 #[va, vb] w fun e w' => e = .returned (.bool r) ∧ Below w.heap.size w w' := by
  have := Same_num va vb p q w h g
  rwa [hr] at this
end Go.Proofs.YtnnnhjgmgomlpaaGreat
