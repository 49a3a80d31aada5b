/- A part of the proofs about fractions. -/
import Derived.Test.YtnnnhjgmgomlpaaGreatQz1
import Derived.Test.YtnnnhjgmgomlpaaGreatQz2
import Derived.Test.YtnnnhjgmgomlpaaGreatQz3
import Derived.Test.YtnnnhjgmgomlpaaGreatQz4
import Derived.Test.YtnnnhjgmgomlpaaGreatQz5
import Derived.Test.YtnnnhjgmgomlpaaGreatQz6
import Derived.Test.YtnnnhjgmgomlpaaGreatQz7
import Derived.Test.YtnnnhjgmgomlpaaGreatQz8
import Derived.Test.YtnnnhjgmgomlpaaGreatQz9
import Derived.Test.YtnnnhjgmgomlpaaGreatQz10
import Derived.Test.YtnnnhjgmgomlpaaGreatQz11
import Derived.Test.YtnnnhjgmgomlpaaGreatQz12
import Derived.Test.YtnnnhjgmgomlpaaGreatQz13
import Derived.Test.YtnnnhjgmgomlpaaGreatQz14
import Derived.Test.YtnnnhjgmgomlpaaGreatQz15
import Derived.Test.YtnnnhjgmgomlpaaGreatQz16
import Derived.Test.YtnnnhjgmgomlpaaGreatQz17
import Derived.Test.YtnnnhjgmgomlpaaGreatQz18
import Derived.Test.YtnnnhjgmgomlpaaGreatQz19
import Derived.Test.YtnnnhjgmgomlpaaGreatQz20
import Derived.Test.YtnnnhjgmgomlpaaGreatQz21
import Derived.Test.YtnnnhjgmgomlpaaGreatQz22
import Derived.Test.YtnnnhjgmgomlpaaGreatQz23
import Derived.Test.YtnnnhjgmgomlpaaGreatQz24
import Derived.Test.YtnnnhjgmgomlpaaGreatQz25
import Derived.Test.YtnnnhjgmgomlpaaGreatQz26
import Derived.Test.YtnnnhjgmgomlpaaGreatQz27
import Derived.Test.YtnnnhjgmgomlpaaGreatQz28
import Derived.Test.YtnnnhjgmgomlpaaGreatQz29
import Derived.Test.YtnnnhjgmgomlpaaGreatQz30
import Derived.Test.YtnnnhjgmgomlpaaGreatQz31
import Derived.Test.YtnnnhjgmgomlpaaGreatRows
namespace Go.Proofs.YtnnnhjgmgomlpaaGreat
open Go.RowKit Wh
set_option maxRecDepth 100000 in
set_option maxHeartbeats 1000000 in
theorem frText_bad (b : Bool) (a : Option Addr) (k c : Nat) (b' : Bool) (a' : Option Addr) (k' c' : Nat) (l l' : List Nat) (hv : fvld b l b' l' = false) (w : World) (h : Lim w (.slice a k c) l) (hm : Lm l) (h' : Lim w (.slice a' k' c') l') (hm' : Lm l') :
    Calls Tryz.prog 60 #[.agg #[.bool b, .slice a k c, .bool b', .slice a' k' c']] w fun e w' => e = .returned (.tuple #[.string ⟨#[]⟩, .int .i64 2]) ∧ Below w.heap.size w w' := by
  have hv' := fun W (hW : Below w.heap.size w W) => valid_raw b a k c l b' a' k' c' l' W (h.below hW (Nat.le_refl _)) hm (h'.below hW (Nat.le_refl _)) hm'
  rw [hv] at hv'
  have HV := Lib.hid hv'
  clear h hm h' hm' hv hv'
  have hB := Below.refl w.heap.size w
  obtain ⟨al, xa, hN⟩ := mk hB #[.bool b, .slice a k c, .bool b', .slice a' k' c'] 26
  replace hB := hN
  clear al hN
  try simp only [World.size_alloc] at xa
  go_enter Tryz.func60, Tryz.ntmps60
  obtain ⟨al, xx, hN⟩ := mk hB #[.bool b, .slice a k c, .bool b', .slice a' k' c'] 85
  replace xa := xa.on al
  replace hB := hN
  clear al hN
  try simp only [World.size_alloc] at xx
  have pa := xa.all4
  have px := xx.all4
  go_wp2_with fail
  clear pa px
  refine (HV.out _ hB).mono ?_
  rintro e w1 ⟨rfl, hb⟩
  replace xa := xa.on hb
  replace xx := xx.on hb
  have hz1 := hb.size
  try simp at hz1
  replace hB := hB.trans (hb.mono hB.size)
  clear hb
  clear xa
  have px := xx.all4
  have HB := Lib.hid hB
  clear hB
  go_wp2
  exact bodyPost_ret (v := .tuple #[.string ⟨#[]⟩, .int .i64 2]) (by simp [results, Tryz.results60, go_sem]) rfl ⟨rfl, HB.out⟩
end Go.Proofs.YtnnnhjgmgomlpaaGreat
