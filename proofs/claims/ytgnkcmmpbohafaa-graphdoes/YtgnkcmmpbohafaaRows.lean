/-
  No cell of these rows narrows 'for every input' (looked for: loops, veiled, ifaces, maps, wideKeys, modest, calm, conditions, laid).
  DERIVED. THE GIVEN ROWS OF THIS SEAT. 6 by the template 'for every input the law returns true; each argument reads behind the call as it read before'; 0 by the template 'total and deterministic' (their statements: YtgnkcmmpbohafaaTotals.lean).
  GIVEN WITH THE SEED: the statements are not yours to turn. If you find one false, say at which input.
  Laid BY PROGRAM, IN A SANDBOX (cutbox-rows.mjs): the forced cells as the released guide's own fill.sh prints them over the translation b2c72538b1ebfd58… (all of the seat's roots in one cut). By AI agents, Wed Nov 11 2026. No macro, syntax, notation, axiom, sorry.
-/
import Derived.Test.YtgnkcmmpbohafaaChecked
import GoSem.Claim
import GoSem.ClaimJoined
import GoSem.ClaimMapViews
import Derived.JoinedTies
import Derived.KernelRfl
namespace Go.Proofs.Ytgnkcmmpbohafaa
/- THE CELL 'sum', in the pinned program and in every row, IS THE sha256 OF THE DUMP (.gsa) THAT YtgnkcmmpbohafaaProg.lean LOADS. Nothing in Lean hashes anything: it is a label: what it is worth is what the hold of that sum in a sandbox is worth. -/
noncomputable def Try.pinned : Pinned := { name := "ytgnkcmmpbohafaa", sum := "b2c72538b1ebfd58c160996d227ce10c7c4c3d7ee00209ba06f8ca18970e1de7", checked := Try.checked }
namespace Rows
def none {H : Type} : Left H := { results := [], args := [] }

/-- 'tollhouselaw22.GraphDoes': WHATEVER THE INPUT: true; the input reads as it did. -/
def graphDoesSpec : ChangeSpec := { name := "graphDoes", fn := fun _ => fun
  | [d1, d2] => { results := [.lit (.bool true)], args := [d1, d2] }
  | _ => none }
def graphDoesRow : OpenClaim := { program := "ytgnkcmmpbohafaa", sum := "b2c72538b1ebfd58c160996d227ce10c7c4c3d7ee00209ba06f8ca18970e1de7", func := "tollhouse/tollhouselaw22.GraphDoes", spec := "graphDoes", inPlace := ["slices.overlaps[tollhouse/api.Edge]", "math.Float64frombits"], unfollowed := true, recurses := true, named := ["math/bits.divideError", "math/bits.overflowError"], apart := false }
def GraphDoesSaid : Prop := graphDoesRow.holds Try.pinned (OpenSpec.ofChange graphDoesSpec)

/-- ITS FALSE NEIGHBOUR: 'it returns false'. Refute it at one input. -/
def graphDoesWrong : ChangeSpec := { name := "graphDoes", fn := fun _ => fun
  | [d1, d2] => { results := [.lit (.bool false)], args := [d1, d2] }
  | _ => none }
def GraphDoesWrongFalsely : Prop := graphDoesRow.holds Try.pinned (OpenSpec.ofChange graphDoesWrong)

/-- 'tollhouselaw22.GraphFinds': WHATEVER THE INPUT: true; the input reads as it did. -/
def graphFindsSpec : ChangeSpec := { name := "graphFinds", fn := fun _ => fun
  | [d1, d2] => { results := [.lit (.bool true)], args := [d1, d2] }
  | _ => none }
def graphFindsRow : OpenClaim := { program := "ytgnkcmmpbohafaa", sum := "b2c72538b1ebfd58c160996d227ce10c7c4c3d7ee00209ba06f8ca18970e1de7", func := "tollhouse/tollhouselaw22.GraphFinds", spec := "graphFinds", inPlace := ["slices.overlaps[tollhouse/api.Edge]", "math.Float64frombits", "math.Float64bits"], unfollowed := true, recurses := true, named := ["math/bits.divideError", "math/bits.overflowError"], apart := false }
def GraphFindsSaid : Prop := graphFindsRow.holds Try.pinned (OpenSpec.ofChange graphFindsSpec)

/-- ITS FALSE NEIGHBOUR: 'it returns false'. Refute it at one input. -/
def graphFindsWrong : ChangeSpec := { name := "graphFinds", fn := fun _ => fun
  | [d1, d2] => { results := [.lit (.bool false)], args := [d1, d2] }
  | _ => none }
def GraphFindsWrongFalsely : Prop := graphFindsRow.holds Try.pinned (OpenSpec.ofChange graphFindsWrong)

/-- 'tollhouselaw22.GraphWays': WHATEVER THE INPUT: true; the input reads as it did. -/
def graphWaysSpec : ChangeSpec := { name := "graphWays", fn := fun _ => fun
  | [d1, d2, d3] => { results := [.lit (.bool true)], args := [d1, d2, d3] }
  | _ => none }
def graphWaysRow : OpenClaim := { program := "ytgnkcmmpbohafaa", sum := "b2c72538b1ebfd58c160996d227ce10c7c4c3d7ee00209ba06f8ca18970e1de7", func := "tollhouse/tollhouselaw22.GraphWays", spec := "graphWays", inPlace := ["slices.overlaps[tollhouse/api.Edge]", "math.Float64frombits"], unfollowed := true, recurses := true, named := ["math/bits.divideError", "math/bits.overflowError"], apart := false }
def GraphWaysSaid : Prop := graphWaysRow.holds Try.pinned (OpenSpec.ofChange graphWaysSpec)

/-- ITS FALSE NEIGHBOUR: 'it returns false'. Refute it at one input. -/
def graphWaysWrong : ChangeSpec := { name := "graphWays", fn := fun _ => fun
  | [d1, d2, d3] => { results := [.lit (.bool false)], args := [d1, d2, d3] }
  | _ => none }
def GraphWaysWrongFalsely : Prop := graphWaysRow.holds Try.pinned (OpenSpec.ofChange graphWaysWrong)

/-- 'tollhouselaw22.GraphNobody': WHATEVER THE INPUT: true; the input reads as it did. -/
def graphNobodySpec : ChangeSpec := { name := "graphNobody", fn := fun _ => fun
  | [d1, d2] => { results := [.lit (.bool true)], args := [d1, d2] }
  | _ => none }
def graphNobodyRow : OpenClaim := { program := "ytgnkcmmpbohafaa", sum := "b2c72538b1ebfd58c160996d227ce10c7c4c3d7ee00209ba06f8ca18970e1de7", func := "tollhouse/tollhouselaw22.GraphNobody", spec := "graphNobody", inPlace := ["slices.overlaps[tollhouse/api.Edge]", "math.Float64frombits"], unfollowed := true, recurses := true, named := ["math/bits.divideError", "math/bits.overflowError"], apart := false }
def GraphNobodySaid : Prop := graphNobodyRow.holds Try.pinned (OpenSpec.ofChange graphNobodySpec)

/-- ITS FALSE NEIGHBOUR: 'it returns false'. Refute it at one input. -/
def graphNobodyWrong : ChangeSpec := { name := "graphNobody", fn := fun _ => fun
  | [d1, d2] => { results := [.lit (.bool false)], args := [d1, d2] }
  | _ => none }
def GraphNobodyWrongFalsely : Prop := graphNobodyRow.holds Try.pinned (OpenSpec.ofChange graphNobodyWrong)

/-- 'tollhouselaw22.GraphAvoids': WHATEVER THE INPUT: true; the input reads as it did. -/
def graphAvoidsSpec : ChangeSpec := { name := "graphAvoids", fn := fun _ => fun
  | [d1, d2, d3] => { results := [.lit (.bool true)], args := [d1, d2, d3] }
  | _ => none }
def graphAvoidsRow : OpenClaim := { program := "ytgnkcmmpbohafaa", sum := "b2c72538b1ebfd58c160996d227ce10c7c4c3d7ee00209ba06f8ca18970e1de7", func := "tollhouse/tollhouselaw22.GraphAvoids", spec := "graphAvoids", inPlace := ["slices.overlaps[tollhouse/api.Edge]", "math.Float64frombits"], unfollowed := true, recurses := true, named := ["math/bits.divideError", "math/bits.overflowError"], apart := false }
def GraphAvoidsSaid : Prop := graphAvoidsRow.holds Try.pinned (OpenSpec.ofChange graphAvoidsSpec)

/-- ITS FALSE NEIGHBOUR: 'it returns false'. Refute it at one input. -/
def graphAvoidsWrong : ChangeSpec := { name := "graphAvoids", fn := fun _ => fun
  | [d1, d2, d3] => { results := [.lit (.bool false)], args := [d1, d2, d3] }
  | _ => none }
def GraphAvoidsWrongFalsely : Prop := graphAvoidsRow.holds Try.pinned (OpenSpec.ofChange graphAvoidsWrong)

/-- 'tollhouselaw22.GraphMost': WHATEVER THE INPUT: true; the input reads as it did. -/
def graphMostSpec : ChangeSpec := { name := "graphMost", fn := fun _ => fun
  | [d1, d2, d3] => { results := [.lit (.bool true)], args := [d1, d2, d3] }
  | _ => none }
def graphMostRow : OpenClaim := { program := "ytgnkcmmpbohafaa", sum := "b2c72538b1ebfd58c160996d227ce10c7c4c3d7ee00209ba06f8ca18970e1de7", func := "tollhouse/tollhouselaw22.GraphMost", spec := "graphMost", inPlace := ["slices.overlaps[tollhouse/api.Edge]", "math.Float64frombits"], unfollowed := true, recurses := true, named := ["math/bits.divideError", "math/bits.overflowError"], apart := false }
def GraphMostSaid : Prop := graphMostRow.holds Try.pinned (OpenSpec.ofChange graphMostSpec)

/-- ITS FALSE NEIGHBOUR: 'it returns false'. Refute it at one input. -/
def graphMostWrong : ChangeSpec := { name := "graphMost", fn := fun _ => fun
  | [d1, d2, d3] => { results := [.lit (.bool false)], args := [d1, d2, d3] }
  | _ => none }
def GraphMostWrongFalsely : Prop := graphMostRow.holds Try.pinned (OpenSpec.ofChange graphMostWrong)

/- THE SECOND FORM. 'bulk': how many values and letters a reading holds, each counted each time it is reached (what is shared counts as often as it is met; a slice's spare places count too). A statement '..UptoSaid' is the law's where the arguments, and the package variables that the reading takes, are together of bulk at most 1048576: NARROWER than '..Said'. Prove '..Said' where nothing that the law and all that it calls make is longer than what came in: it says more and counts as full. Else prove '..UptoSaid'. A law counts once. -/
mutual
def uptoBulk {H : Type} : DataW H → Nat
  | .lit (.string bytes) => bytes.length + 1
  | .lit _ => 1
  | .nil => 1
  | .ptr d => uptoBulk d + 1
  | .slice elems spare => uptoBulkAll elems + uptoBulkAll spare + 1
  | .agg parts => uptoBulkAll parts + 1
  | .iface _ d => uptoBulk d + 1
  | .map entries => uptoBulkEntries entries + 1
  | .held _ => 1
def uptoBulkAll {H : Type} : List (DataW H) → Nat
  | [] => 0
  | d :: r => uptoBulk d + uptoBulkAll r
def uptoBulkEntries {H : Type} : List (Lit × DataW H) → Nat
  | [] => 0
  | x :: r => uptoBulkEntry x + uptoBulkEntries r
def uptoBulkEntry {H : Type} : Lit × DataW H → Nat
  | (.string bytes, d) => bytes.length + uptoBulk d + 1
  | (_, d) => uptoBulk d + 1
 end
def uptoSmall : (H : Type) → List (DataW H) → Bool := fun _ ds => decide (uptoBulkAll ds ≤ 1048576)
def OpenSpec.upto (s : _root_.Go.ChangeSpec) : _root_.Go.OpenSpec := { _root_.Go.OpenSpec.ofChange s with cond := some uptoSmall }

/-- 'tollhouselaw22.GraphDoes', WHERE WHAT IT READS IS OF BULK AT MOST 1048576: true; the input reads as it did. -/
def graphDoesUptoRow : OpenClaim := { program := "ytgnkcmmpbohafaa", sum := "b2c72538b1ebfd58c160996d227ce10c7c4c3d7ee00209ba06f8ca18970e1de7", func := "tollhouse/tollhouselaw22.GraphDoes", spec := "graphDoes", inPlace := ["slices.overlaps[tollhouse/api.Edge]", "math.Float64frombits"], unfollowed := true, recurses := true, named := ["math/bits.divideError", "math/bits.overflowError"], apart := false, narrowed := true }
def GraphDoesUptoSaid : Prop := graphDoesUptoRow.holds Try.pinned (OpenSpec.upto graphDoesSpec)

/-- 'tollhouselaw22.GraphFinds', WHERE WHAT IT READS IS OF BULK AT MOST 1048576: true; the input reads as it did. -/
def graphFindsUptoRow : OpenClaim := { program := "ytgnkcmmpbohafaa", sum := "b2c72538b1ebfd58c160996d227ce10c7c4c3d7ee00209ba06f8ca18970e1de7", func := "tollhouse/tollhouselaw22.GraphFinds", spec := "graphFinds", inPlace := ["slices.overlaps[tollhouse/api.Edge]", "math.Float64frombits", "math.Float64bits"], unfollowed := true, recurses := true, named := ["math/bits.divideError", "math/bits.overflowError"], apart := false, narrowed := true }
def GraphFindsUptoSaid : Prop := graphFindsUptoRow.holds Try.pinned (OpenSpec.upto graphFindsSpec)

/-- 'tollhouselaw22.GraphWays', WHERE WHAT IT READS IS OF BULK AT MOST 1048576: true; the input reads as it did. -/
def graphWaysUptoRow : OpenClaim := { program := "ytgnkcmmpbohafaa", sum := "b2c72538b1ebfd58c160996d227ce10c7c4c3d7ee00209ba06f8ca18970e1de7", func := "tollhouse/tollhouselaw22.GraphWays", spec := "graphWays", inPlace := ["slices.overlaps[tollhouse/api.Edge]", "math.Float64frombits"], unfollowed := true, recurses := true, named := ["math/bits.divideError", "math/bits.overflowError"], apart := false, narrowed := true }
def GraphWaysUptoSaid : Prop := graphWaysUptoRow.holds Try.pinned (OpenSpec.upto graphWaysSpec)

/-- 'tollhouselaw22.GraphNobody', WHERE WHAT IT READS IS OF BULK AT MOST 1048576: true; the input reads as it did. -/
def graphNobodyUptoRow : OpenClaim := { program := "ytgnkcmmpbohafaa", sum := "b2c72538b1ebfd58c160996d227ce10c7c4c3d7ee00209ba06f8ca18970e1de7", func := "tollhouse/tollhouselaw22.GraphNobody", spec := "graphNobody", inPlace := ["slices.overlaps[tollhouse/api.Edge]", "math.Float64frombits"], unfollowed := true, recurses := true, named := ["math/bits.divideError", "math/bits.overflowError"], apart := false, narrowed := true }
def GraphNobodyUptoSaid : Prop := graphNobodyUptoRow.holds Try.pinned (OpenSpec.upto graphNobodySpec)

/-- 'tollhouselaw22.GraphAvoids', WHERE WHAT IT READS IS OF BULK AT MOST 1048576: true; the input reads as it did. -/
def graphAvoidsUptoRow : OpenClaim := { program := "ytgnkcmmpbohafaa", sum := "b2c72538b1ebfd58c160996d227ce10c7c4c3d7ee00209ba06f8ca18970e1de7", func := "tollhouse/tollhouselaw22.GraphAvoids", spec := "graphAvoids", inPlace := ["slices.overlaps[tollhouse/api.Edge]", "math.Float64frombits"], unfollowed := true, recurses := true, named := ["math/bits.divideError", "math/bits.overflowError"], apart := false, narrowed := true }
def GraphAvoidsUptoSaid : Prop := graphAvoidsUptoRow.holds Try.pinned (OpenSpec.upto graphAvoidsSpec)

/-- 'tollhouselaw22.GraphMost', WHERE WHAT IT READS IS OF BULK AT MOST 1048576: true; the input reads as it did. -/
def graphMostUptoRow : OpenClaim := { program := "ytgnkcmmpbohafaa", sum := "b2c72538b1ebfd58c160996d227ce10c7c4c3d7ee00209ba06f8ca18970e1de7", func := "tollhouse/tollhouselaw22.GraphMost", spec := "graphMost", inPlace := ["slices.overlaps[tollhouse/api.Edge]", "math.Float64frombits"], unfollowed := true, recurses := true, named := ["math/bits.divideError", "math/bits.overflowError"], apart := false, narrowed := true }
def GraphMostUptoSaid : Prop := graphMostUptoRow.holds Try.pinned (OpenSpec.upto graphMostSpec)

end Rows
end Go.Proofs.Ytgnkcmmpbohafaa
