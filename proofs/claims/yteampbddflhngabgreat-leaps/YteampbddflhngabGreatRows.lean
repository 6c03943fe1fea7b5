/-
  No cell of these rows narrows 'for every input' (looked for: loops, veiled, ifaces, maps, wideKeys, modest, calm, conditions, laid).
  DERIVED. THE GIVEN ROWS OF THIS SEAT. 7 by the template 'for every input the law returns true; each argument reads behind the call as it read before'; 0 by the template 'total and deterministic' (their statements: YteampbddflhngabGreatTotals.lean).
  GIVEN WITH THE SEED: the statements are not yours to turn. If you find one false, say at which input.
  Laid BY PROGRAM, IN A SANDBOX (cutbox-rows.mjs): the forced cells as the released guide's own fill.sh prints them over the translation 476d1cd54dd3db2a… (all of the seat's roots in one cut). By AI agents, Wed Nov 11 2026. No macro, syntax, notation, axiom, sorry.
-/
import Derived.Test.YteampbddflhngabGreatChecked
import GoSem.Claim
import GoSem.ClaimJoined
import GoSem.ClaimMapViews
import Derived.JoinedTies
import Derived.KernelRfl
namespace Go.Proofs.YteampbddflhngabGreat
/- THE CELL 'sum', in the pinned program and in every row, IS THE sha256 OF THE DUMP (.gsa) THAT YteampbddflhngabGreatProg.lean LOADS. Nothing in Lean hashes anything: it is a label: what it is worth is what the hold of that sum in a sandbox is worth. -/
noncomputable def Tryz.pinned : Pinned := { name := "yteampbddflhngabgreat", sum := "476d1cd54dd3db2a86f30d5d256a3a0be6a348b3603152ee4ff7c33612d653c0", checked := Tryz.checked }
namespace Rows
def none {H : Type} : Left H := { results := [], args := [] }

/-- 'derivekeep.Renamed': WHATEVER THE INPUT: true; the input reads as it did. -/
def renamedSpec : ChangeSpec := { name := "renamed", fn := fun _ => fun
  | [d] => { results := [.lit (.bool true)], args := [d] }
  | _ => none }
def renamedRow : OpenClaim := { program := "yteampbddflhngabgreat", sum := "476d1cd54dd3db2a86f30d5d256a3a0be6a348b3603152ee4ff7c33612d653c0", func := "derive/derivekeep.Renamed", spec := "renamed", recurses := true, apart := false }
def RenamedSaid : Prop := renamedRow.holds Tryz.pinned (OpenSpec.ofChange renamedSpec)

/-- ITS FALSE NEIGHBOUR: 'it returns false'. Refute it at one input. -/
def renamedWrong : ChangeSpec := { name := "renamed", fn := fun _ => fun
  | [d] => { results := [.lit (.bool false)], args := [d] }
  | _ => none }
def RenamedWrongFalsely : Prop := renamedRow.holds Tryz.pinned (OpenSpec.ofChange renamedWrong)

/-- 'derivekeep.Padded': WHATEVER THE INPUT: true; the input reads as it did. -/
def paddedSpec : ChangeSpec := { name := "padded", fn := fun _ => fun
  | [d1, d2] => { results := [.lit (.bool true)], args := [d1, d2] }
  | _ => none }
def paddedRow : OpenClaim := { program := "yteampbddflhngabgreat", sum := "476d1cd54dd3db2a86f30d5d256a3a0be6a348b3603152ee4ff7c33612d653c0", func := "derive/derivekeep.Padded", spec := "padded", recurses := true, apart := false }
def PaddedSaid : Prop := paddedRow.holds Tryz.pinned (OpenSpec.ofChange paddedSpec)

/-- ITS FALSE NEIGHBOUR: 'it returns false'. Refute it at one input. -/
def paddedWrong : ChangeSpec := { name := "padded", fn := fun _ => fun
  | [d1, d2] => { results := [.lit (.bool false)], args := [d1, d2] }
  | _ => none }
def PaddedWrongFalsely : Prop := paddedRow.holds Tryz.pinned (OpenSpec.ofChange paddedWrong)

/-- 'derivekeep.Known': WHATEVER THE INPUT: true; the input reads as it did. -/
def knownSpec : ChangeSpec := { name := "known", fn := fun _ => fun
  | [d] => { results := [.lit (.bool true)], args := [d] }
  | _ => none }
def knownRow : OpenClaim := { program := "yteampbddflhngabgreat", sum := "476d1cd54dd3db2a86f30d5d256a3a0be6a348b3603152ee4ff7c33612d653c0", func := "derive/derivekeep.Known", spec := "known", recurses := true, apart := false }
def KnownSaid : Prop := knownRow.holds Tryz.pinned (OpenSpec.ofChange knownSpec)

/-- ITS FALSE NEIGHBOUR: 'it returns false'. Refute it at one input. -/
def knownWrong : ChangeSpec := { name := "known", fn := fun _ => fun
  | [d] => { results := [.lit (.bool false)], args := [d] }
  | _ => none }
def KnownWrongFalsely : Prop := knownRow.holds Tryz.pinned (OpenSpec.ofChange knownWrong)

/-- 'derivekeep.Chain': WHATEVER THE INPUT: true; the input reads as it did. -/
def chainSpec : ChangeSpec := { name := "chain", fn := fun _ => fun
  | [d] => { results := [.lit (.bool true)], args := [d] }
  | _ => none }
def chainRow : OpenClaim := { program := "yteampbddflhngabgreat", sum := "476d1cd54dd3db2a86f30d5d256a3a0be6a348b3603152ee4ff7c33612d653c0", func := "derive/derivekeep.Chain", spec := "chain", recurses := true, apart := false }
def ChainSaid : Prop := chainRow.holds Tryz.pinned (OpenSpec.ofChange chainSpec)

/-- ITS FALSE NEIGHBOUR: 'it returns false'. Refute it at one input. -/
def chainWrong : ChangeSpec := { name := "chain", fn := fun _ => fun
  | [d] => { results := [.lit (.bool false)], args := [d] }
  | _ => none }
def ChainWrongFalsely : Prop := chainRow.holds Tryz.pinned (OpenSpec.ofChange chainWrong)

/-- 'derivekeep.Orders': WHATEVER THE INPUT: true; the input reads as it did. -/
def ordersSpec : ChangeSpec := { name := "orders", fn := fun _ => fun
  | [d1, d2, d3] => { results := [.lit (.bool true)], args := [d1, d2, d3] }
  | _ => none }
def ordersRow : OpenClaim := { program := "yteampbddflhngabgreat", sum := "476d1cd54dd3db2a86f30d5d256a3a0be6a348b3603152ee4ff7c33612d653c0", func := "derive/derivekeep.Orders", spec := "orders", recurses := true, apart := false }
def OrdersSaid : Prop := ordersRow.holds Tryz.pinned (OpenSpec.ofChange ordersSpec)

/-- ITS FALSE NEIGHBOUR: 'it returns false'. Refute it at one input. -/
def ordersWrong : ChangeSpec := { name := "orders", fn := fun _ => fun
  | [d1, d2, d3] => { results := [.lit (.bool false)], args := [d1, d2, d3] }
  | _ => none }
def OrdersWrongFalsely : Prop := ordersRow.holds Tryz.pinned (OpenSpec.ofChange ordersWrong)

/-- 'derivekeep.Triangles': WHATEVER THE INPUT: true; the input reads as it did. -/
def trianglesSpec : ChangeSpec := { name := "triangles", fn := fun _ => fun
  | [d] => { results := [.lit (.bool true)], args := [d] }
  | _ => none }
def trianglesRow : OpenClaim := { program := "yteampbddflhngabgreat", sum := "476d1cd54dd3db2a86f30d5d256a3a0be6a348b3603152ee4ff7c33612d653c0", func := "derive/derivekeep.Triangles", spec := "triangles", recurses := true, apart := false }
def TrianglesSaid : Prop := trianglesRow.holds Tryz.pinned (OpenSpec.ofChange trianglesSpec)

/-- ITS FALSE NEIGHBOUR: 'it returns false'. Refute it at one input. -/
def trianglesWrong : ChangeSpec := { name := "triangles", fn := fun _ => fun
  | [d] => { results := [.lit (.bool false)], args := [d] }
  | _ => none }
def TrianglesWrongFalsely : Prop := trianglesRow.holds Tryz.pinned (OpenSpec.ofChange trianglesWrong)

/-- 'derivekeep.Leaps': WHATEVER THE INPUT: true; the input reads as it did. -/
def leapsSpec : ChangeSpec := { name := "leaps", fn := fun _ => fun
  | [d1, d2] => { results := [.lit (.bool true)], args := [d1, d2] }
  | _ => none }
def leapsRow : OpenClaim := { program := "yteampbddflhngabgreat", sum := "476d1cd54dd3db2a86f30d5d256a3a0be6a348b3603152ee4ff7c33612d653c0", func := "derive/derivekeep.Leaps", spec := "leaps", recurses := true, apart := false }
def LeapsSaid : Prop := leapsRow.holds Tryz.pinned (OpenSpec.ofChange leapsSpec)

/-- ITS FALSE NEIGHBOUR: 'it returns false'. Refute it at one input. -/
def leapsWrong : ChangeSpec := { name := "leaps", fn := fun _ => fun
  | [d1, d2] => { results := [.lit (.bool false)], args := [d1, d2] }
  | _ => none }
def LeapsWrongFalsely : Prop := leapsRow.holds Tryz.pinned (OpenSpec.ofChange leapsWrong)

/- THE SECOND FORM. 'bulk': how many values and letters a reading holds, each counted each time it is reached (what is shared counts as often as it is met; a slice's spare places count too). A statement '..UptoSaid' is the law's where the arguments, and the package variables that the reading takes, are together of bulk at most 1048576: NARROWER than '..Said'. Prove '..Said' where nothing that the law and all that it calls make is longer than what came in: it says more and counts as full. Else prove '..UptoSaid'. A law counts once. -/
mutual
def uptoBulk {H : Type} : DataW H → Nat
  | .lit (.string bytes) => bytes.length + 1
  | .lit _ => 1
  | .nil => 1
  | .ptr d => uptoBulk d + 1
  | .slice elems spare => uptoBulkAll elems + uptoBulkAll spare + 1
  | .agg parts => uptoBulkAll parts + 1
  | .iface _ d => uptoBulk d + 1
  | .map entries => uptoBulkEntries entries + 1
  | .held _ => 1
def uptoBulkAll {H : Type} : List (DataW H) → Nat
  | [] => 0
  | d :: r => uptoBulk d + uptoBulkAll r
def uptoBulkEntries {H : Type} : List (Lit × DataW H) → Nat
  | [] => 0
  | x :: r => uptoBulkEntry x + uptoBulkEntries r
def uptoBulkEntry {H : Type} : Lit × DataW H → Nat
  | (.string bytes, d) => bytes.length + uptoBulk d + 1
  | (_, d) => uptoBulk d + 1
 end
def uptoSmall : (H : Type) → List (DataW H) → Bool := fun _ ds => decide (uptoBulkAll ds ≤ 1048576)
def OpenSpec.upto (s : _root_.Go.ChangeSpec) : _root_.Go.OpenSpec := { _root_.Go.OpenSpec.ofChange s with cond := some uptoSmall }

/-- 'derivekeep.Renamed', WHERE WHAT IT READS IS OF BULK AT MOST 1048576: true; the input reads as it did. -/
def renamedUptoRow : OpenClaim := { program := "yteampbddflhngabgreat", sum := "476d1cd54dd3db2a86f30d5d256a3a0be6a348b3603152ee4ff7c33612d653c0", func := "derive/derivekeep.Renamed", spec := "renamed", recurses := true, apart := false, narrowed := true }
def RenamedUptoSaid : Prop := renamedUptoRow.holds Tryz.pinned (OpenSpec.upto renamedSpec)

/-- 'derivekeep.Padded', WHERE WHAT IT READS IS OF BULK AT MOST 1048576: true; the input reads as it did. -/
def paddedUptoRow : OpenClaim := { program := "yteampbddflhngabgreat", sum := "476d1cd54dd3db2a86f30d5d256a3a0be6a348b3603152ee4ff7c33612d653c0", func := "derive/derivekeep.Padded", spec := "padded", recurses := true, apart := false, narrowed := true }
def PaddedUptoSaid : Prop := paddedUptoRow.holds Tryz.pinned (OpenSpec.upto paddedSpec)

/-- 'derivekeep.Known', WHERE WHAT IT READS IS OF BULK AT MOST 1048576: true; the input reads as it did. -/
def knownUptoRow : OpenClaim := { program := "yteampbddflhngabgreat", sum := "476d1cd54dd3db2a86f30d5d256a3a0be6a348b3603152ee4ff7c33612d653c0", func := "derive/derivekeep.Known", spec := "known", recurses := true, apart := false, narrowed := true }
def KnownUptoSaid : Prop := knownUptoRow.holds Tryz.pinned (OpenSpec.upto knownSpec)

/-- 'derivekeep.Chain', WHERE WHAT IT READS IS OF BULK AT MOST 1048576: true; the input reads as it did. -/
def chainUptoRow : OpenClaim := { program := "yteampbddflhngabgreat", sum := "476d1cd54dd3db2a86f30d5d256a3a0be6a348b3603152ee4ff7c33612d653c0", func := "derive/derivekeep.Chain", spec := "chain", recurses := true, apart := false, narrowed := true }
def ChainUptoSaid : Prop := chainUptoRow.holds Tryz.pinned (OpenSpec.upto chainSpec)

/-- 'derivekeep.Orders', WHERE WHAT IT READS IS OF BULK AT MOST 1048576: true; the input reads as it did. -/
def ordersUptoRow : OpenClaim := { program := "yteampbddflhngabgreat", sum := "476d1cd54dd3db2a86f30d5d256a3a0be6a348b3603152ee4ff7c33612d653c0", func := "derive/derivekeep.Orders", spec := "orders", recurses := true, apart := false, narrowed := true }
def OrdersUptoSaid : Prop := ordersUptoRow.holds Tryz.pinned (OpenSpec.upto ordersSpec)

/-- 'derivekeep.Triangles', WHERE WHAT IT READS IS OF BULK AT MOST 1048576: true; the input reads as it did. -/
def trianglesUptoRow : OpenClaim := { program := "yteampbddflhngabgreat", sum := "476d1cd54dd3db2a86f30d5d256a3a0be6a348b3603152ee4ff7c33612d653c0", func := "derive/derivekeep.Triangles", spec := "triangles", recurses := true, apart := false, narrowed := true }
def TrianglesUptoSaid : Prop := trianglesUptoRow.holds Tryz.pinned (OpenSpec.upto trianglesSpec)

/-- 'derivekeep.Leaps', WHERE WHAT IT READS IS OF BULK AT MOST 1048576: true; the input reads as it did. -/
def leapsUptoRow : OpenClaim := { program := "yteampbddflhngabgreat", sum := "476d1cd54dd3db2a86f30d5d256a3a0be6a348b3603152ee4ff7c33612d653c0", func := "derive/derivekeep.Leaps", spec := "leaps", recurses := true, apart := false, narrowed := true }
def LeapsUptoSaid : Prop := leapsUptoRow.holds Tryz.pinned (OpenSpec.upto leapsSpec)

end Rows
end Go.Proofs.YteampbddflhngabGreat
