/-
  No cell of these rows narrows 'for every input' (looked for: loops, veiled, ifaces, maps, wideKeys, modest, calm, conditions, laid).
  DERIVED. THE GIVEN ROWS OF THIS SEAT. 12 by the template 'for every input the law returns true; each argument reads behind the call as it read before'; 0 by the template 'total and deterministic' (their statements: YteampbddflhngaaGreatTotals.lean).
  GIVEN WITH THE SEED: the statements are not yours to turn. If you find one false, say at which input.
  Laid BY PROGRAM, IN A SANDBOX (cutbox-rows.mjs): the forced cells as the released guide's own fill.sh prints them over the translation c4511e9aa5e8dbac… (all of the seat's roots in one cut). By AI agents, Wed Nov 11 2026. No macro, syntax, notation, axiom, sorry.
-/
import Derived.Test.YteampbddflhngaaGreatChecked
import GoSem.Claim
import GoSem.ClaimJoined
import GoSem.ClaimMapViews
import Derived.JoinedTies
import Derived.KernelRfl
namespace Go.Proofs.YteampbddflhngaaGreat
/- THE CELL 'sum', in the pinned program and in every row, IS THE sha256 OF THE DUMP (.gsa) THAT YteampbddflhngaaGreatProg.lean LOADS. Nothing in Lean hashes anything: it is a label: what it is worth is what the hold of that sum in a sandbox is worth. -/
noncomputable def Tryz.pinned : Pinned := { name := "yteampbddflhngaagreat", sum := "c4511e9aa5e8dbac4ac0bc3318e166d1831b32fb3b627f863a9375155a2ef862", checked := Tryz.checked }
namespace Rows
def none {H : Type} : Left H := { results := [], args := [] }

/-- 'derivelaw.Compiles': WHATEVER THE INPUT: true; the input reads as it did. -/
def compilesSpec : ChangeSpec := { name := "compiles", fn := fun _ => fun
  | [d] => { results := [.lit (.bool true)], args := [d] }
  | _ => none }
def compilesRow : OpenClaim := { program := "yteampbddflhngaagreat", sum := "c4511e9aa5e8dbac4ac0bc3318e166d1831b32fb3b627f863a9375155a2ef862", func := "derive/derivelaw.Compiles", spec := "compiles", recurses := true, apart := false }
def CompilesSaid : Prop := compilesRow.holds Tryz.pinned (OpenSpec.ofChange compilesSpec)

/-- ITS FALSE NEIGHBOUR: 'it returns false'. Refute it at one input. -/
def compilesWrong : ChangeSpec := { name := "compiles", fn := fun _ => fun
  | [d] => { results := [.lit (.bool false)], args := [d] }
  | _ => none }
def CompilesWrongFalsely : Prop := compilesRow.holds Tryz.pinned (OpenSpec.ofChange compilesWrong)

/-- 'derivelaw.Tells': WHATEVER THE INPUT: true; the input reads as it did. -/
def tellsSpec : ChangeSpec := { name := "tells", fn := fun _ => fun
  | [d] => { results := [.lit (.bool true)], args := [d] }
  | _ => none }
def tellsRow : OpenClaim := { program := "yteampbddflhngaagreat", sum := "c4511e9aa5e8dbac4ac0bc3318e166d1831b32fb3b627f863a9375155a2ef862", func := "derive/derivelaw.Tells", spec := "tells", recurses := true, apart := false }
def TellsSaid : Prop := tellsRow.holds Tryz.pinned (OpenSpec.ofChange tellsSpec)

/-- ITS FALSE NEIGHBOUR: 'it returns false'. Refute it at one input. -/
def tellsWrong : ChangeSpec := { name := "tells", fn := fun _ => fun
  | [d] => { results := [.lit (.bool false)], args := [d] }
  | _ => none }
def TellsWrongFalsely : Prop := tellsRow.holds Tryz.pinned (OpenSpec.ofChange tellsWrong)

/-- 'derivelaw.Follows': WHATEVER THE INPUT: true; the input reads as it did. -/
def followsSpec : ChangeSpec := { name := "follows", fn := fun _ => fun
  | [d] => { results := [.lit (.bool true)], args := [d] }
  | _ => none }
def followsRow : OpenClaim := { program := "yteampbddflhngaagreat", sum := "c4511e9aa5e8dbac4ac0bc3318e166d1831b32fb3b627f863a9375155a2ef862", func := "derive/derivelaw.Follows", spec := "follows", recurses := true, apart := false }
def FollowsSaid : Prop := followsRow.holds Tryz.pinned (OpenSpec.ofChange followsSpec)

/-- ITS FALSE NEIGHBOUR: 'it returns false'. Refute it at one input. -/
def followsWrong : ChangeSpec := { name := "follows", fn := fun _ => fun
  | [d] => { results := [.lit (.bool false)], args := [d] }
  | _ => none }
def FollowsWrongFalsely : Prop := followsRow.holds Tryz.pinned (OpenSpec.ofChange followsWrong)

/-- 'derivelaw.Rows': WHATEVER THE INPUT: true; the input reads as it did. -/
def rowsSpec : ChangeSpec := { name := "rows", fn := fun _ => fun
  | [d] => { results := [.lit (.bool true)], args := [d] }
  | _ => none }
def rowsRow : OpenClaim := { program := "yteampbddflhngaagreat", sum := "c4511e9aa5e8dbac4ac0bc3318e166d1831b32fb3b627f863a9375155a2ef862", func := "derive/derivelaw.Rows", spec := "rows", recurses := true, apart := false }
def RowsSaid : Prop := rowsRow.holds Tryz.pinned (OpenSpec.ofChange rowsSpec)

/-- ITS FALSE NEIGHBOUR: 'it returns false'. Refute it at one input. -/
def rowsWrong : ChangeSpec := { name := "rows", fn := fun _ => fun
  | [d] => { results := [.lit (.bool false)], args := [d] }
  | _ => none }
def RowsWrongFalsely : Prop := rowsRow.holds Tryz.pinned (OpenSpec.ofChange rowsWrong)

/-- 'derivelaw.Whens': WHATEVER THE INPUT: true; the input reads as it did. -/
def whensSpec : ChangeSpec := { name := "whens", fn := fun _ => fun
  | [d] => { results := [.lit (.bool true)], args := [d] }
  | _ => none }
def whensRow : OpenClaim := { program := "yteampbddflhngaagreat", sum := "c4511e9aa5e8dbac4ac0bc3318e166d1831b32fb3b627f863a9375155a2ef862", func := "derive/derivelaw.Whens", spec := "whens", recurses := true, apart := false }
def WhensSaid : Prop := whensRow.holds Tryz.pinned (OpenSpec.ofChange whensSpec)

/-- ITS FALSE NEIGHBOUR: 'it returns false'. Refute it at one input. -/
def whensWrong : ChangeSpec := { name := "whens", fn := fun _ => fun
  | [d] => { results := [.lit (.bool false)], args := [d] }
  | _ => none }
def WhensWrongFalsely : Prop := whensRow.holds Tryz.pinned (OpenSpec.ofChange whensWrong)

/-- 'derivelaw.Ordered': WHATEVER THE INPUT: true; the input reads as it did. -/
def orderedSpec : ChangeSpec := { name := "ordered", fn := fun _ => fun
  | [d] => { results := [.lit (.bool true)], args := [d] }
  | _ => none }
def orderedRow : OpenClaim := { program := "yteampbddflhngaagreat", sum := "c4511e9aa5e8dbac4ac0bc3318e166d1831b32fb3b627f863a9375155a2ef862", func := "derive/derivelaw.Ordered", spec := "ordered", recurses := true, apart := false }
def OrderedSaid : Prop := orderedRow.holds Tryz.pinned (OpenSpec.ofChange orderedSpec)

/-- ITS FALSE NEIGHBOUR: 'it returns false'. Refute it at one input. -/
def orderedWrong : ChangeSpec := { name := "ordered", fn := fun _ => fun
  | [d] => { results := [.lit (.bool false)], args := [d] }
  | _ => none }
def OrderedWrongFalsely : Prop := orderedRow.holds Tryz.pinned (OpenSpec.ofChange orderedWrong)

/-- 'derivelaw.All': WHATEVER THE INPUT: true; the input reads as it did. -/
def allSpec : ChangeSpec := { name := "all", fn := fun _ => fun
  | [d] => { results := [.lit (.bool true)], args := [d] }
  | _ => none }
def allRow : OpenClaim := { program := "yteampbddflhngaagreat", sum := "c4511e9aa5e8dbac4ac0bc3318e166d1831b32fb3b627f863a9375155a2ef862", func := "derive/derivelaw.All", spec := "all", recurses := true, apart := false }
def AllSaid : Prop := allRow.holds Tryz.pinned (OpenSpec.ofChange allSpec)

/-- ITS FALSE NEIGHBOUR: 'it returns false'. Refute it at one input. -/
def allWrong : ChangeSpec := { name := "all", fn := fun _ => fun
  | [d] => { results := [.lit (.bool false)], args := [d] }
  | _ => none }
def AllWrongFalsely : Prop := allRow.holds Tryz.pinned (OpenSpec.ofChange allWrong)

/-- 'derivelaw.Raw': WHATEVER THE INPUT: true; the input reads as it did. -/
def rawSpec : ChangeSpec := { name := "raw", fn := fun _ => fun
  | [d1, d2, d3, d4] => { results := [.lit (.bool true)], args := [d1, d2, d3, d4] }
  | _ => none }
def rawRow : OpenClaim := { program := "yteampbddflhngaagreat", sum := "c4511e9aa5e8dbac4ac0bc3318e166d1831b32fb3b627f863a9375155a2ef862", func := "derive/derivelaw.Raw", spec := "raw", recurses := true, apart := false }
def RawSaid : Prop := rawRow.holds Tryz.pinned (OpenSpec.ofChange rawSpec)

/-- ITS FALSE NEIGHBOUR: 'it returns false'. Refute it at one input. -/
def rawWrong : ChangeSpec := { name := "raw", fn := fun _ => fun
  | [d1, d2, d3, d4] => { results := [.lit (.bool false)], args := [d1, d2, d3, d4] }
  | _ => none }
def RawWrongFalsely : Prop := rawRow.holds Tryz.pinned (OpenSpec.ofChange rawWrong)

/-- 'derivekeep.Whole': WHATEVER THE INPUT: true; the input reads as it did. -/
def wholeSpec : ChangeSpec := { name := "whole", fn := fun _ => fun
  | [d] => { results := [.lit (.bool true)], args := [d] }
  | _ => none }
def wholeRow : OpenClaim := { program := "yteampbddflhngaagreat", sum := "c4511e9aa5e8dbac4ac0bc3318e166d1831b32fb3b627f863a9375155a2ef862", func := "derive/derivekeep.Whole", spec := "whole", recurses := true, apart := false }
def WholeSaid : Prop := wholeRow.holds Tryz.pinned (OpenSpec.ofChange wholeSpec)

/-- ITS FALSE NEIGHBOUR: 'it returns false'. Refute it at one input. -/
def wholeWrong : ChangeSpec := { name := "whole", fn := fun _ => fun
  | [d] => { results := [.lit (.bool false)], args := [d] }
  | _ => none }
def WholeWrongFalsely : Prop := wholeRow.holds Tryz.pinned (OpenSpec.ofChange wholeWrong)

/-- 'derivekeep.Shuffled': WHATEVER THE INPUT: true; the input reads as it did. -/
def shuffledSpec : ChangeSpec := { name := "shuffled", fn := fun _ => fun
  | [d1, d2] => { results := [.lit (.bool true)], args := [d1, d2] }
  | _ => none }
def shuffledRow : OpenClaim := { program := "yteampbddflhngaagreat", sum := "c4511e9aa5e8dbac4ac0bc3318e166d1831b32fb3b627f863a9375155a2ef862", func := "derive/derivekeep.Shuffled", spec := "shuffled", recurses := true, apart := false }
def ShuffledSaid : Prop := shuffledRow.holds Tryz.pinned (OpenSpec.ofChange shuffledSpec)

/-- ITS FALSE NEIGHBOUR: 'it returns false'. Refute it at one input. -/
def shuffledWrong : ChangeSpec := { name := "shuffled", fn := fun _ => fun
  | [d1, d2] => { results := [.lit (.bool false)], args := [d1, d2] }
  | _ => none }
def ShuffledWrongFalsely : Prop := shuffledRow.holds Tryz.pinned (OpenSpec.ofChange shuffledWrong)

/-- 'derivekeep.Printed': WHATEVER THE INPUT: true; the input reads as it did. -/
def printedSpec : ChangeSpec := { name := "printed", fn := fun _ => fun
  | [d] => { results := [.lit (.bool true)], args := [d] }
  | _ => none }
def printedRow : OpenClaim := { program := "yteampbddflhngaagreat", sum := "c4511e9aa5e8dbac4ac0bc3318e166d1831b32fb3b627f863a9375155a2ef862", func := "derive/derivekeep.Printed", spec := "printed", recurses := true, apart := false }
def PrintedSaid : Prop := printedRow.holds Tryz.pinned (OpenSpec.ofChange printedSpec)

/-- ITS FALSE NEIGHBOUR: 'it returns false'. Refute it at one input. -/
def printedWrong : ChangeSpec := { name := "printed", fn := fun _ => fun
  | [d] => { results := [.lit (.bool false)], args := [d] }
  | _ => none }
def PrintedWrongFalsely : Prop := printedRow.holds Tryz.pinned (OpenSpec.ofChange printedWrong)

/-- 'derivekeep.Limits': WHATEVER THE INPUT: true; the input reads as it did. -/
def limitsSpec : ChangeSpec := { name := "limits", fn := fun _ => fun
  | [d] => { results := [.lit (.bool true)], args := [d] }
  | _ => none }
def limitsRow : OpenClaim := { program := "yteampbddflhngaagreat", sum := "c4511e9aa5e8dbac4ac0bc3318e166d1831b32fb3b627f863a9375155a2ef862", func := "derive/derivekeep.Limits", spec := "limits", recurses := true, apart := false }
def LimitsSaid : Prop := limitsRow.holds Tryz.pinned (OpenSpec.ofChange limitsSpec)

/-- ITS FALSE NEIGHBOUR: 'it returns false'. Refute it at one input. -/
def limitsWrong : ChangeSpec := { name := "limits", fn := fun _ => fun
  | [d] => { results := [.lit (.bool false)], args := [d] }
  | _ => none }
def LimitsWrongFalsely : Prop := limitsRow.holds Tryz.pinned (OpenSpec.ofChange limitsWrong)

/- THE SECOND FORM. 'bulk': how many values and letters a reading holds, each counted each time it is reached (what is shared counts as often as it is met; a slice's spare places count too). A statement '..UptoSaid' is the law's where the arguments, and the package variables that the reading takes, are together of bulk at most 1048576: NARROWER than '..Said'. Prove '..Said' where nothing that the law and all that it calls make is longer than what came in: it says more and counts as full. Else prove '..UptoSaid'. A law counts once. -/
mutual
def uptoBulk {H : Type} : DataW H → Nat
  | .lit (.string bytes) => bytes.length + 1
  | .lit _ => 1
  | .nil => 1
  | .ptr d => uptoBulk d + 1
  | .slice elems spare => uptoBulkAll elems + uptoBulkAll spare + 1
  | .agg parts => uptoBulkAll parts + 1
  | .iface _ d => uptoBulk d + 1
  | .map entries => uptoBulkEntries entries + 1
  | .held _ => 1
def uptoBulkAll {H : Type} : List (DataW H) → Nat
  | [] => 0
  | d :: r => uptoBulk d + uptoBulkAll r
def uptoBulkEntries {H : Type} : List (Lit × DataW H) → Nat
  | [] => 0
  | x :: r => uptoBulkEntry x + uptoBulkEntries r
def uptoBulkEntry {H : Type} : Lit × DataW H → Nat
  | (.string bytes, d) => bytes.length + uptoBulk d + 1
  | (_, d) => uptoBulk d + 1
 end
def uptoSmall : (H : Type) → List (DataW H) → Bool := fun _ ds => decide (uptoBulkAll ds ≤ 1048576)
def OpenSpec.upto (s : _root_.Go.ChangeSpec) : _root_.Go.OpenSpec := { _root_.Go.OpenSpec.ofChange s with cond := some uptoSmall }

/-- 'derivelaw.Compiles', WHERE WHAT IT READS IS OF BULK AT MOST 1048576: true; the input reads as it did. -/
def compilesUptoRow : OpenClaim := { program := "yteampbddflhngaagreat", sum := "c4511e9aa5e8dbac4ac0bc3318e166d1831b32fb3b627f863a9375155a2ef862", func := "derive/derivelaw.Compiles", spec := "compiles", recurses := true, apart := false, narrowed := true }
def CompilesUptoSaid : Prop := compilesUptoRow.holds Tryz.pinned (OpenSpec.upto compilesSpec)

/-- 'derivelaw.Tells', WHERE WHAT IT READS IS OF BULK AT MOST 1048576: true; the input reads as it did. -/
def tellsUptoRow : OpenClaim := { program := "yteampbddflhngaagreat", sum := "c4511e9aa5e8dbac4ac0bc3318e166d1831b32fb3b627f863a9375155a2ef862", func := "derive/derivelaw.Tells", spec := "tells", recurses := true, apart := false, narrowed := true }
def TellsUptoSaid : Prop := tellsUptoRow.holds Tryz.pinned (OpenSpec.upto tellsSpec)

/-- 'derivelaw.Follows', WHERE WHAT IT READS IS OF BULK AT MOST 1048576: true; the input reads as it did. -/
def followsUptoRow : OpenClaim := { program := "yteampbddflhngaagreat", sum := "c4511e9aa5e8dbac4ac0bc3318e166d1831b32fb3b627f863a9375155a2ef862", func := "derive/derivelaw.Follows", spec := "follows", recurses := true, apart := false, narrowed := true }
def FollowsUptoSaid : Prop := followsUptoRow.holds Tryz.pinned (OpenSpec.upto followsSpec)

/-- 'derivelaw.Rows', WHERE WHAT IT READS IS OF BULK AT MOST 1048576: true; the input reads as it did. -/
def rowsUptoRow : OpenClaim := { program := "yteampbddflhngaagreat", sum := "c4511e9aa5e8dbac4ac0bc3318e166d1831b32fb3b627f863a9375155a2ef862", func := "derive/derivelaw.Rows", spec := "rows", recurses := true, apart := false, narrowed := true }
def RowsUptoSaid : Prop := rowsUptoRow.holds Tryz.pinned (OpenSpec.upto rowsSpec)

/-- 'derivelaw.Whens', WHERE WHAT IT READS IS OF BULK AT MOST 1048576: true; the input reads as it did. -/
def whensUptoRow : OpenClaim := { program := "yteampbddflhngaagreat", sum := "c4511e9aa5e8dbac4ac0bc3318e166d1831b32fb3b627f863a9375155a2ef862", func := "derive/derivelaw.Whens", spec := "whens", recurses := true, apart := false, narrowed := true }
def WhensUptoSaid : Prop := whensUptoRow.holds Tryz.pinned (OpenSpec.upto whensSpec)

/-- 'derivelaw.Ordered', WHERE WHAT IT READS IS OF BULK AT MOST 1048576: true; the input reads as it did. -/
def orderedUptoRow : OpenClaim := { program := "yteampbddflhngaagreat", sum := "c4511e9aa5e8dbac4ac0bc3318e166d1831b32fb3b627f863a9375155a2ef862", func := "derive/derivelaw.Ordered", spec := "ordered", recurses := true, apart := false, narrowed := true }
def OrderedUptoSaid : Prop := orderedUptoRow.holds Tryz.pinned (OpenSpec.upto orderedSpec)

/-- 'derivelaw.All', WHERE WHAT IT READS IS OF BULK AT MOST 1048576: true; the input reads as it did. -/
def allUptoRow : OpenClaim := { program := "yteampbddflhngaagreat", sum := "c4511e9aa5e8dbac4ac0bc3318e166d1831b32fb3b627f863a9375155a2ef862", func := "derive/derivelaw.All", spec := "all", recurses := true, apart := false, narrowed := true }
def AllUptoSaid : Prop := allUptoRow.holds Tryz.pinned (OpenSpec.upto allSpec)

/-- 'derivelaw.Raw', WHERE WHAT IT READS IS OF BULK AT MOST 1048576: true; the input reads as it did. -/
def rawUptoRow : OpenClaim := { program := "yteampbddflhngaagreat", sum := "c4511e9aa5e8dbac4ac0bc3318e166d1831b32fb3b627f863a9375155a2ef862", func := "derive/derivelaw.Raw", spec := "raw", recurses := true, apart := false, narrowed := true }
def RawUptoSaid : Prop := rawUptoRow.holds Tryz.pinned (OpenSpec.upto rawSpec)

/-- 'derivekeep.Whole', WHERE WHAT IT READS IS OF BULK AT MOST 1048576: true; the input reads as it did. -/
def wholeUptoRow : OpenClaim := { program := "yteampbddflhngaagreat", sum := "c4511e9aa5e8dbac4ac0bc3318e166d1831b32fb3b627f863a9375155a2ef862", func := "derive/derivekeep.Whole", spec := "whole", recurses := true, apart := false, narrowed := true }
def WholeUptoSaid : Prop := wholeUptoRow.holds Tryz.pinned (OpenSpec.upto wholeSpec)

/-- 'derivekeep.Shuffled', WHERE WHAT IT READS IS OF BULK AT MOST 1048576: true; the input reads as it did. -/
def shuffledUptoRow : OpenClaim := { program := "yteampbddflhngaagreat", sum := "c4511e9aa5e8dbac4ac0bc3318e166d1831b32fb3b627f863a9375155a2ef862", func := "derive/derivekeep.Shuffled", spec := "shuffled", recurses := true, apart := false, narrowed := true }
def ShuffledUptoSaid : Prop := shuffledUptoRow.holds Tryz.pinned (OpenSpec.upto shuffledSpec)

/-- 'derivekeep.Printed', WHERE WHAT IT READS IS OF BULK AT MOST 1048576: true; the input reads as it did. -/
def printedUptoRow : OpenClaim := { program := "yteampbddflhngaagreat", sum := "c4511e9aa5e8dbac4ac0bc3318e166d1831b32fb3b627f863a9375155a2ef862", func := "derive/derivekeep.Printed", spec := "printed", recurses := true, apart := false, narrowed := true }
def PrintedUptoSaid : Prop := printedUptoRow.holds Tryz.pinned (OpenSpec.upto printedSpec)

/-- 'derivekeep.Limits', WHERE WHAT IT READS IS OF BULK AT MOST 1048576: true; the input reads as it did. -/
def limitsUptoRow : OpenClaim := { program := "yteampbddflhngaagreat", sum := "c4511e9aa5e8dbac4ac0bc3318e166d1831b32fb3b627f863a9375155a2ef862", func := "derive/derivekeep.Limits", spec := "limits", recurses := true, apart := false, narrowed := true }
def LimitsUptoSaid : Prop := limitsUptoRow.holds Tryz.pinned (OpenSpec.upto limitsSpec)

end Rows
end Go.Proofs.YteampbddflhngaaGreat
