/-
  No cell of these rows narrows 'for every input' (looked for: loops, veiled, ifaces, maps, wideKeys, modest, calm, conditions, laid).
  DERIVED. THE GIVEN ROWS OF THIS SEAT. 12 by the template 'for every input the law returns true; each argument reads behind the call as it read before'; 0 by the template 'total and deterministic' (their statements: YtnnnhjgmgomlpaaGreatTotals.lean).
  GIVEN WITH THE SEED: the statements are not yours to turn. If you find one false, say at which input.
  Laid BY PROGRAM, IN A SANDBOX (cutbox-rows.mjs): the forced cells as the released guide's own fill.sh prints them over the translation 8437a8124954a7af… (all of the seat's roots in one cut). By AI agents, Wed Nov 11 2026. No macro, syntax, notation, axiom, sorry.
-/
import Derived.Test.YtnnnhjgmgomlpaaGreatChecked
import GoSem.Claim
import GoSem.ClaimJoined
import GoSem.ClaimMapViews
import Derived.JoinedTies
import Derived.KernelRfl
namespace Go.Proofs.YtnnnhjgmgomlpaaGreat
/- THE CELL 'sum', in the pinned program and in every row, IS THE sha256 OF THE DUMP (.gsa) THAT YtnnnhjgmgomlpaaGreatProg.lean LOADS. Nothing in Lean hashes anything: it is a label: what it is worth is what the hold of that sum in a sandbox is worth. -/
noncomputable def Tryz.pinned : Pinned := { name := "ytnnnhjgmgomlpaagreat", sum := "8437a8124954a7afcda7b0f02e72d25fddc64f84eec71157358a15ccbd06d608", checked := Tryz.checked }
namespace Rows
def none {H : Type} : Left H := { results := [], args := [] }

/-- 'annuitantlaw02.FracTells': WHATEVER THE INPUT: true; the input reads as it did. -/
def fracTellsSpec : ChangeSpec := { name := "fracTells", fn := fun _ => fun
  | [d1, d2, d3, d4] => { results := [.lit (.bool true)], args := [d1, d2, d3, d4] }
  | _ => none }
def fracTellsRow : OpenClaim := { program := "ytnnnhjgmgomlpaagreat", sum := "8437a8124954a7afcda7b0f02e72d25fddc64f84eec71157358a15ccbd06d608", func := "annuitant/annuitantlaw02.FracTells", spec := "fracTells", inPlace := ["internal/bytealg.IndexByteString", "internal/bytealg.IndexString"], unfollowed := true, recurses := true, named := ["internal/bytealg.MaxLen"], apart := false }
def FracTellsSaid : Prop := fracTellsRow.holds Tryz.pinned (OpenSpec.ofChange fracTellsSpec)

/-- ITS FALSE NEIGHBOUR: 'it returns false'. Refute it at one input. -/
def fracTellsWrong : ChangeSpec := { name := "fracTells", fn := fun _ => fun
  | [d1, d2, d3, d4] => { results := [.lit (.bool false)], args := [d1, d2, d3, d4] }
  | _ => none }
def FracTellsWrongFalsely : Prop := fracTellsRow.holds Tryz.pinned (OpenSpec.ofChange fracTellsWrong)

/-- 'annuitantlaw02.FracRounds': WHATEVER THE INPUT: true; the input reads as it did. -/
def fracRoundsSpec : ChangeSpec := { name := "fracRounds", fn := fun _ => fun
  | [d1, d2, d3] => { results := [.lit (.bool true)], args := [d1, d2, d3] }
  | _ => none }
def fracRoundsRow : OpenClaim := { program := "ytnnnhjgmgomlpaagreat", sum := "8437a8124954a7afcda7b0f02e72d25fddc64f84eec71157358a15ccbd06d608", func := "annuitant/annuitantlaw02.FracRounds", spec := "fracRounds", inPlace := ["internal/bytealg.IndexByteString", "internal/bytealg.IndexString"], unfollowed := true, recurses := true, named := ["internal/bytealg.MaxLen"], apart := false }
def FracRoundsSaid : Prop := fracRoundsRow.holds Tryz.pinned (OpenSpec.ofChange fracRoundsSpec)

/-- ITS FALSE NEIGHBOUR: 'it returns false'. Refute it at one input. -/
def fracRoundsWrong : ChangeSpec := { name := "fracRounds", fn := fun _ => fun
  | [d1, d2, d3] => { results := [.lit (.bool false)], args := [d1, d2, d3] }
  | _ => none }
def FracRoundsWrongFalsely : Prop := fracRoundsRow.holds Tryz.pinned (OpenSpec.ofChange fracRoundsWrong)

/-- 'annuitantlaw02.FracLimits': WHATEVER THE INPUT: true; the input reads as it did. -/
def fracLimitsSpec : ChangeSpec := { name := "fracLimits", fn := fun _ => fun
  | [d1, d2, d3, d4] => { results := [.lit (.bool true)], args := [d1, d2, d3, d4] }
  | _ => none }
def fracLimitsRow : OpenClaim := { program := "ytnnnhjgmgomlpaagreat", sum := "8437a8124954a7afcda7b0f02e72d25fddc64f84eec71157358a15ccbd06d608", func := "annuitant/annuitantlaw02.FracLimits", spec := "fracLimits", inPlace := ["internal/bytealg.IndexByteString", "internal/bytealg.IndexString"], unfollowed := true, recurses := true, named := ["internal/bytealg.MaxLen"], apart := false }
def FracLimitsSaid : Prop := fracLimitsRow.holds Tryz.pinned (OpenSpec.ofChange fracLimitsSpec)

/-- ITS FALSE NEIGHBOUR: 'it returns false'. Refute it at one input. -/
def fracLimitsWrong : ChangeSpec := { name := "fracLimits", fn := fun _ => fun
  | [d1, d2, d3, d4] => { results := [.lit (.bool false)], args := [d1, d2, d3, d4] }
  | _ => none }
def FracLimitsWrongFalsely : Prop := fracLimitsRow.holds Tryz.pinned (OpenSpec.ofChange fracLimitsWrong)

/-- 'annuitantlaw02.FracEnds': WHATEVER THE INPUT: true; the input reads as it did. -/
def fracEndsSpec : ChangeSpec := { name := "fracEnds", fn := fun _ => fun
  | [] => { results := [.lit (.bool true)], args := [] }
  | _ => none }
def fracEndsRow : OpenClaim := { program := "ytnnnhjgmgomlpaagreat", sum := "8437a8124954a7afcda7b0f02e72d25fddc64f84eec71157358a15ccbd06d608", func := "annuitant/annuitantlaw02.FracEnds", spec := "fracEnds", inPlace := ["internal/bytealg.IndexByteString", "internal/bytealg.IndexString"], unfollowed := true, recurses := true, named := ["internal/bytealg.MaxLen"], apart := false }
def FracEndsSaid : Prop := fracEndsRow.holds Tryz.pinned (OpenSpec.ofChange fracEndsSpec)

/-- ITS FALSE NEIGHBOUR: 'it returns false'. Refute it at one input. -/
def fracEndsWrong : ChangeSpec := { name := "fracEnds", fn := fun _ => fun
  | [] => { results := [.lit (.bool false)], args := [] }
  | _ => none }
def FracEndsWrongFalsely : Prop := fracEndsRow.holds Tryz.pinned (OpenSpec.ofChange fracEndsWrong)

/-- 'annuitantlaw02.FracField': WHATEVER THE INPUT: true; the input reads as it did. -/
def fracFieldSpec : ChangeSpec := { name := "fracField", fn := fun _ => fun
  | [d1, d2, d3] => { results := [.lit (.bool true)], args := [d1, d2, d3] }
  | _ => none }
def fracFieldRow : OpenClaim := { program := "ytnnnhjgmgomlpaagreat", sum := "8437a8124954a7afcda7b0f02e72d25fddc64f84eec71157358a15ccbd06d608", func := "annuitant/annuitantlaw02.FracField", spec := "fracField", inPlace := ["internal/bytealg.IndexByteString", "internal/bytealg.IndexString"], unfollowed := true, recurses := true, named := ["internal/bytealg.MaxLen"], apart := false }
def FracFieldSaid : Prop := fracFieldRow.holds Tryz.pinned (OpenSpec.ofChange fracFieldSpec)

/-- ITS FALSE NEIGHBOUR: 'it returns false'. Refute it at one input. -/
def fracFieldWrong : ChangeSpec := { name := "fracField", fn := fun _ => fun
  | [d1, d2, d3] => { results := [.lit (.bool false)], args := [d1, d2, d3] }
  | _ => none }
def FracFieldWrongFalsely : Prop := fracFieldRow.holds Tryz.pinned (OpenSpec.ofChange fracFieldWrong)

/-- 'annuitantlaw02.FracLowest': WHATEVER THE INPUT: true; the input reads as it did. -/
def fracLowestSpec : ChangeSpec := { name := "fracLowest", fn := fun _ => fun
  | [d1, d2, d3, d4, d5] => { results := [.lit (.bool true)], args := [d1, d2, d3, d4, d5] }
  | _ => none }
def fracLowestRow : OpenClaim := { program := "ytnnnhjgmgomlpaagreat", sum := "8437a8124954a7afcda7b0f02e72d25fddc64f84eec71157358a15ccbd06d608", func := "annuitant/annuitantlaw02.FracLowest", spec := "fracLowest", inPlace := ["internal/bytealg.IndexByteString", "internal/bytealg.IndexString"], unfollowed := true, recurses := true, named := ["internal/bytealg.MaxLen"], apart := false }
def FracLowestSaid : Prop := fracLowestRow.holds Tryz.pinned (OpenSpec.ofChange fracLowestSpec)

/-- ITS FALSE NEIGHBOUR: 'it returns false'. Refute it at one input. -/
def fracLowestWrong : ChangeSpec := { name := "fracLowest", fn := fun _ => fun
  | [d1, d2, d3, d4, d5] => { results := [.lit (.bool false)], args := [d1, d2, d3, d4, d5] }
  | _ => none }
def FracLowestWrongFalsely : Prop := fracLowestRow.holds Tryz.pinned (OpenSpec.ofChange fracLowestWrong)

/-- 'annuitantlaw02.FracOrder': WHATEVER THE INPUT: true; the input reads as it did. -/
def fracOrderSpec : ChangeSpec := { name := "fracOrder", fn := fun _ => fun
  | [d1, d2, d3] => { results := [.lit (.bool true)], args := [d1, d2, d3] }
  | _ => none }
def fracOrderRow : OpenClaim := { program := "ytnnnhjgmgomlpaagreat", sum := "8437a8124954a7afcda7b0f02e72d25fddc64f84eec71157358a15ccbd06d608", func := "annuitant/annuitantlaw02.FracOrder", spec := "fracOrder", inPlace := ["internal/bytealg.IndexByteString", "internal/bytealg.IndexString"], unfollowed := true, recurses := true, named := ["internal/bytealg.MaxLen"], apart := false }
def FracOrderSaid : Prop := fracOrderRow.holds Tryz.pinned (OpenSpec.ofChange fracOrderSpec)

/-- ITS FALSE NEIGHBOUR: 'it returns false'. Refute it at one input. -/
def fracOrderWrong : ChangeSpec := { name := "fracOrder", fn := fun _ => fun
  | [d1, d2, d3] => { results := [.lit (.bool false)], args := [d1, d2, d3] }
  | _ => none }
def FracOrderWrongFalsely : Prop := fracOrderRow.holds Tryz.pinned (OpenSpec.ofChange fracOrderWrong)

/-- 'annuitantlaw02.FracFloors': WHATEVER THE INPUT: true; the input reads as it did. -/
def fracFloorsSpec : ChangeSpec := { name := "fracFloors", fn := fun _ => fun
  | [d] => { results := [.lit (.bool true)], args := [d] }
  | _ => none }
def fracFloorsRow : OpenClaim := { program := "ytnnnhjgmgomlpaagreat", sum := "8437a8124954a7afcda7b0f02e72d25fddc64f84eec71157358a15ccbd06d608", func := "annuitant/annuitantlaw02.FracFloors", spec := "fracFloors", inPlace := ["internal/bytealg.IndexByteString", "internal/bytealg.IndexString"], unfollowed := true, recurses := true, named := ["internal/bytealg.MaxLen"], apart := false }
def FracFloorsSaid : Prop := fracFloorsRow.holds Tryz.pinned (OpenSpec.ofChange fracFloorsSpec)

/-- ITS FALSE NEIGHBOUR: 'it returns false'. Refute it at one input. -/
def fracFloorsWrong : ChangeSpec := { name := "fracFloors", fn := fun _ => fun
  | [d] => { results := [.lit (.bool false)], args := [d] }
  | _ => none }
def FracFloorsWrongFalsely : Prop := fracFloorsRow.holds Tryz.pinned (OpenSpec.ofChange fracFloorsWrong)

/-- 'annuitantlaw02.FracNearest': WHATEVER THE INPUT: true; the input reads as it did. -/
def fracNearestSpec : ChangeSpec := { name := "fracNearest", fn := fun _ => fun
  | [d1, d2, d3] => { results := [.lit (.bool true)], args := [d1, d2, d3] }
  | _ => none }
def fracNearestRow : OpenClaim := { program := "ytnnnhjgmgomlpaagreat", sum := "8437a8124954a7afcda7b0f02e72d25fddc64f84eec71157358a15ccbd06d608", func := "annuitant/annuitantlaw02.FracNearest", spec := "fracNearest", inPlace := ["internal/bytealg.IndexByteString", "internal/bytealg.IndexString"], unfollowed := true, recurses := true, named := ["internal/bytealg.MaxLen"], apart := false }
def FracNearestSaid : Prop := fracNearestRow.holds Tryz.pinned (OpenSpec.ofChange fracNearestSpec)

/-- ITS FALSE NEIGHBOUR: 'it returns false'. Refute it at one input. -/
def fracNearestWrong : ChangeSpec := { name := "fracNearest", fn := fun _ => fun
  | [d1, d2, d3] => { results := [.lit (.bool false)], args := [d1, d2, d3] }
  | _ => none }
def FracNearestWrongFalsely : Prop := fracNearestRow.holds Tryz.pinned (OpenSpec.ofChange fracNearestWrong)

/-- 'annuitantlaw02.FracTexts': WHATEVER THE INPUT: true; the input reads as it did. -/
def fracTextsSpec : ChangeSpec := { name := "fracTexts", fn := fun _ => fun
  | [d1, d2] => { results := [.lit (.bool true)], args := [d1, d2] }
  | _ => none }
def fracTextsRow : OpenClaim := { program := "ytnnnhjgmgomlpaagreat", sum := "8437a8124954a7afcda7b0f02e72d25fddc64f84eec71157358a15ccbd06d608", func := "annuitant/annuitantlaw02.FracTexts", spec := "fracTexts", inPlace := ["internal/bytealg.IndexByteString", "internal/bytealg.IndexString"], unfollowed := true, recurses := true, named := ["internal/bytealg.MaxLen"], apart := false }
def FracTextsSaid : Prop := fracTextsRow.holds Tryz.pinned (OpenSpec.ofChange fracTextsSpec)

/-- ITS FALSE NEIGHBOUR: 'it returns false'. Refute it at one input. -/
def fracTextsWrong : ChangeSpec := { name := "fracTexts", fn := fun _ => fun
  | [d1, d2] => { results := [.lit (.bool false)], args := [d1, d2] }
  | _ => none }
def FracTextsWrongFalsely : Prop := fracTextsRow.holds Tryz.pinned (OpenSpec.ofChange fracTextsWrong)

/-- 'annuitantlaw02.FracPowers': WHATEVER THE INPUT: true; the input reads as it did. -/
def fracPowersSpec : ChangeSpec := { name := "fracPowers", fn := fun _ => fun
  | [d1, d2, d3, d4] => { results := [.lit (.bool true)], args := [d1, d2, d3, d4] }
  | _ => none }
def fracPowersRow : OpenClaim := { program := "ytnnnhjgmgomlpaagreat", sum := "8437a8124954a7afcda7b0f02e72d25fddc64f84eec71157358a15ccbd06d608", func := "annuitant/annuitantlaw02.FracPowers", spec := "fracPowers", inPlace := ["internal/bytealg.IndexByteString", "internal/bytealg.IndexString"], unfollowed := true, recurses := true, named := ["internal/bytealg.MaxLen"], apart := false }
def FracPowersSaid : Prop := fracPowersRow.holds Tryz.pinned (OpenSpec.ofChange fracPowersSpec)

/-- ITS FALSE NEIGHBOUR: 'it returns false'. Refute it at one input. -/
def fracPowersWrong : ChangeSpec := { name := "fracPowers", fn := fun _ => fun
  | [d1, d2, d3, d4] => { results := [.lit (.bool false)], args := [d1, d2, d3, d4] }
  | _ => none }
def FracPowersWrongFalsely : Prop := fracPowersRow.holds Tryz.pinned (OpenSpec.ofChange fracPowersWrong)

/-- 'annuitantlaw02.FracWrong': WHATEVER THE INPUT: true; the input reads as it did. -/
def fracWrongSpec : ChangeSpec := { name := "fracWrong", fn := fun _ => fun
  | [d1, d2, d3, d4] => { results := [.lit (.bool true)], args := [d1, d2, d3, d4] }
  | _ => none }
def fracWrongRow : OpenClaim := { program := "ytnnnhjgmgomlpaagreat", sum := "8437a8124954a7afcda7b0f02e72d25fddc64f84eec71157358a15ccbd06d608", func := "annuitant/annuitantlaw02.FracWrong", spec := "fracWrong", inPlace := ["internal/bytealg.IndexByteString", "internal/bytealg.IndexString"], unfollowed := true, recurses := true, named := ["internal/bytealg.MaxLen"], apart := false }
def FracWrongSaid : Prop := fracWrongRow.holds Tryz.pinned (OpenSpec.ofChange fracWrongSpec)

/-- ITS FALSE NEIGHBOUR: 'it returns false'. Refute it at one input. -/
def fracWrongWrong : ChangeSpec := { name := "fracWrong", fn := fun _ => fun
  | [d1, d2, d3, d4] => { results := [.lit (.bool false)], args := [d1, d2, d3, d4] }
  | _ => none }
def FracWrongWrongFalsely : Prop := fracWrongRow.holds Tryz.pinned (OpenSpec.ofChange fracWrongWrong)

/- THE SECOND FORM. 'bulk': how many values and letters a reading holds, each counted each time it is reached (what is shared counts as often as it is met; a slice's spare places count too). A statement '..UptoSaid' is the law's where the arguments, and the package variables that the reading takes, are together of bulk at most 1048576: NARROWER than '..Said'. Prove '..Said' where nothing that the law and all that it calls make is longer than what came in: it says more and counts as full. Else prove '..UptoSaid'. A law counts once. -/
mutual
def uptoBulk {H : Type} : DataW H → Nat
  | .lit (.string bytes) => bytes.length + 1
  | .lit _ => 1
  | .nil => 1
  | .ptr d => uptoBulk d + 1
  | .slice elems spare => uptoBulkAll elems + uptoBulkAll spare + 1
  | .agg parts => uptoBulkAll parts + 1
  | .iface _ d => uptoBulk d + 1
  | .map entries => uptoBulkEntries entries + 1
  | .held _ => 1
def uptoBulkAll {H : Type} : List (DataW H) → Nat
  | [] => 0
  | d :: r => uptoBulk d + uptoBulkAll r
def uptoBulkEntries {H : Type} : List (Lit × DataW H) → Nat
  | [] => 0
  | x :: r => uptoBulkEntry x + uptoBulkEntries r
def uptoBulkEntry {H : Type} : Lit × DataW H → Nat
  | (.string bytes, d) => bytes.length + uptoBulk d + 1
  | (_, d) => uptoBulk d + 1
 end
def uptoSmall : (H : Type) → List (DataW H) → Bool := fun _ ds => decide (uptoBulkAll ds ≤ 1048576)
def OpenSpec.upto (s : _root_.Go.ChangeSpec) : _root_.Go.OpenSpec := { _root_.Go.OpenSpec.ofChange s with cond := some uptoSmall }

/-- 'annuitantlaw02.FracTells', WHERE WHAT IT READS IS OF BULK AT MOST 1048576: true; the input reads as it did. -/
def fracTellsUptoRow : OpenClaim := { program := "ytnnnhjgmgomlpaagreat", sum := "8437a8124954a7afcda7b0f02e72d25fddc64f84eec71157358a15ccbd06d608", func := "annuitant/annuitantlaw02.FracTells", spec := "fracTells", inPlace := ["internal/bytealg.IndexByteString", "internal/bytealg.IndexString"], unfollowed := true, recurses := true, named := ["internal/bytealg.MaxLen"], apart := false, narrowed := true }
def FracTellsUptoSaid : Prop := fracTellsUptoRow.holds Tryz.pinned (OpenSpec.upto fracTellsSpec)

/-- 'annuitantlaw02.FracRounds', WHERE WHAT IT READS IS OF BULK AT MOST 1048576: true; the input reads as it did. -/
def fracRoundsUptoRow : OpenClaim := { program := "ytnnnhjgmgomlpaagreat", sum := "8437a8124954a7afcda7b0f02e72d25fddc64f84eec71157358a15ccbd06d608", func := "annuitant/annuitantlaw02.FracRounds", spec := "fracRounds", inPlace := ["internal/bytealg.IndexByteString", "internal/bytealg.IndexString"], unfollowed := true, recurses := true, named := ["internal/bytealg.MaxLen"], apart := false, narrowed := true }
def FracRoundsUptoSaid : Prop := fracRoundsUptoRow.holds Tryz.pinned (OpenSpec.upto fracRoundsSpec)

/-- 'annuitantlaw02.FracLimits', WHERE WHAT IT READS IS OF BULK AT MOST 1048576: true; the input reads as it did. -/
def fracLimitsUptoRow : OpenClaim := { program := "ytnnnhjgmgomlpaagreat", sum := "8437a8124954a7afcda7b0f02e72d25fddc64f84eec71157358a15ccbd06d608", func := "annuitant/annuitantlaw02.FracLimits", spec := "fracLimits", inPlace := ["internal/bytealg.IndexByteString", "internal/bytealg.IndexString"], unfollowed := true, recurses := true, named := ["internal/bytealg.MaxLen"], apart := false, narrowed := true }
def FracLimitsUptoSaid : Prop := fracLimitsUptoRow.holds Tryz.pinned (OpenSpec.upto fracLimitsSpec)

/-- 'annuitantlaw02.FracEnds', WHERE WHAT IT READS IS OF BULK AT MOST 1048576: true; the input reads as it did. -/
def fracEndsUptoRow : OpenClaim := { program := "ytnnnhjgmgomlpaagreat", sum := "8437a8124954a7afcda7b0f02e72d25fddc64f84eec71157358a15ccbd06d608", func := "annuitant/annuitantlaw02.FracEnds", spec := "fracEnds", inPlace := ["internal/bytealg.IndexByteString", "internal/bytealg.IndexString"], unfollowed := true, recurses := true, named := ["internal/bytealg.MaxLen"], apart := false, narrowed := true }
def FracEndsUptoSaid : Prop := fracEndsUptoRow.holds Tryz.pinned (OpenSpec.upto fracEndsSpec)

/-- 'annuitantlaw02.FracField', WHERE WHAT IT READS IS OF BULK AT MOST 1048576: true; the input reads as it did. -/
def fracFieldUptoRow : OpenClaim := { program := "ytnnnhjgmgomlpaagreat", sum := "8437a8124954a7afcda7b0f02e72d25fddc64f84eec71157358a15ccbd06d608", func := "annuitant/annuitantlaw02.FracField", spec := "fracField", inPlace := ["internal/bytealg.IndexByteString", "internal/bytealg.IndexString"], unfollowed := true, recurses := true, named := ["internal/bytealg.MaxLen"], apart := false, narrowed := true }
def FracFieldUptoSaid : Prop := fracFieldUptoRow.holds Tryz.pinned (OpenSpec.upto fracFieldSpec)

/-- 'annuitantlaw02.FracLowest', WHERE WHAT IT READS IS OF BULK AT MOST 1048576: true; the input reads as it did. -/
def fracLowestUptoRow : OpenClaim := { program := "ytnnnhjgmgomlpaagreat", sum := "8437a8124954a7afcda7b0f02e72d25fddc64f84eec71157358a15ccbd06d608", func := "annuitant/annuitantlaw02.FracLowest", spec := "fracLowest", inPlace := ["internal/bytealg.IndexByteString", "internal/bytealg.IndexString"], unfollowed := true, recurses := true, named := ["internal/bytealg.MaxLen"], apart := false, narrowed := true }
def FracLowestUptoSaid : Prop := fracLowestUptoRow.holds Tryz.pinned (OpenSpec.upto fracLowestSpec)

/-- 'annuitantlaw02.FracOrder', WHERE WHAT IT READS IS OF BULK AT MOST 1048576: true; the input reads as it did. -/
def fracOrderUptoRow : OpenClaim := { program := "ytnnnhjgmgomlpaagreat", sum := "8437a8124954a7afcda7b0f02e72d25fddc64f84eec71157358a15ccbd06d608", func := "annuitant/annuitantlaw02.FracOrder", spec := "fracOrder", inPlace := ["internal/bytealg.IndexByteString", "internal/bytealg.IndexString"], unfollowed := true, recurses := true, named := ["internal/bytealg.MaxLen"], apart := false, narrowed := true }
def FracOrderUptoSaid : Prop := fracOrderUptoRow.holds Tryz.pinned (OpenSpec.upto fracOrderSpec)

/-- 'annuitantlaw02.FracFloors', WHERE WHAT IT READS IS OF BULK AT MOST 1048576: true; the input reads as it did. -/
def fracFloorsUptoRow : OpenClaim := { program := "ytnnnhjgmgomlpaagreat", sum := "8437a8124954a7afcda7b0f02e72d25fddc64f84eec71157358a15ccbd06d608", func := "annuitant/annuitantlaw02.FracFloors", spec := "fracFloors", inPlace := ["internal/bytealg.IndexByteString", "internal/bytealg.IndexString"], unfollowed := true, recurses := true, named := ["internal/bytealg.MaxLen"], apart := false, narrowed := true }
def FracFloorsUptoSaid : Prop := fracFloorsUptoRow.holds Tryz.pinned (OpenSpec.upto fracFloorsSpec)

/-- 'annuitantlaw02.FracNearest', WHERE WHAT IT READS IS OF BULK AT MOST 1048576: true; the input reads as it did. -/
def fracNearestUptoRow : OpenClaim := { program := "ytnnnhjgmgomlpaagreat", sum := "8437a8124954a7afcda7b0f02e72d25fddc64f84eec71157358a15ccbd06d608", func := "annuitant/annuitantlaw02.FracNearest", spec := "fracNearest", inPlace := ["internal/bytealg.IndexByteString", "internal/bytealg.IndexString"], unfollowed := true, recurses := true, named := ["internal/bytealg.MaxLen"], apart := false, narrowed := true }
def FracNearestUptoSaid : Prop := fracNearestUptoRow.holds Tryz.pinned (OpenSpec.upto fracNearestSpec)

/-- 'annuitantlaw02.FracTexts', WHERE WHAT IT READS IS OF BULK AT MOST 1048576: true; the input reads as it did. -/
def fracTextsUptoRow : OpenClaim := { program := "ytnnnhjgmgomlpaagreat", sum := "8437a8124954a7afcda7b0f02e72d25fddc64f84eec71157358a15ccbd06d608", func := "annuitant/annuitantlaw02.FracTexts", spec := "fracTexts", inPlace := ["internal/bytealg.IndexByteString", "internal/bytealg.IndexString"], unfollowed := true, recurses := true, named := ["internal/bytealg.MaxLen"], apart := false, narrowed := true }
def FracTextsUptoSaid : Prop := fracTextsUptoRow.holds Tryz.pinned (OpenSpec.upto fracTextsSpec)

/-- 'annuitantlaw02.FracPowers', WHERE WHAT IT READS IS OF BULK AT MOST 1048576: true; the input reads as it did. -/
def fracPowersUptoRow : OpenClaim := { program := "ytnnnhjgmgomlpaagreat", sum := "8437a8124954a7afcda7b0f02e72d25fddc64f84eec71157358a15ccbd06d608", func := "annuitant/annuitantlaw02.FracPowers", spec := "fracPowers", inPlace := ["internal/bytealg.IndexByteString", "internal/bytealg.IndexString"], unfollowed := true, recurses := true, named := ["internal/bytealg.MaxLen"], apart := false, narrowed := true }
def FracPowersUptoSaid : Prop := fracPowersUptoRow.holds Tryz.pinned (OpenSpec.upto fracPowersSpec)

/-- 'annuitantlaw02.FracWrong', WHERE WHAT IT READS IS OF BULK AT MOST 1048576: true; the input reads as it did. -/
def fracWrongUptoRow : OpenClaim := { program := "ytnnnhjgmgomlpaagreat", sum := "8437a8124954a7afcda7b0f02e72d25fddc64f84eec71157358a15ccbd06d608", func := "annuitant/annuitantlaw02.FracWrong", spec := "fracWrong", inPlace := ["internal/bytealg.IndexByteString", "internal/bytealg.IndexString"], unfollowed := true, recurses := true, named := ["internal/bytealg.MaxLen"], apart := false, narrowed := true }
def FracWrongUptoSaid : Prop := fracWrongUptoRow.holds Tryz.pinned (OpenSpec.upto fracWrongSpec)

end Rows
end Go.Proofs.YtnnnhjgmgomlpaaGreat
