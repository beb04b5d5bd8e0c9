/-
  No cell of these rows narrows 'for every input' (looked for: loops, veiled, ifaces, maps, wideKeys, modest, calm, conditions, laid).
  DERIVED. THE GIVEN ROWS OF THIS SEAT. 6 by the template 'for every input the law returns true; each argument reads behind the call as it read before'; 0 by the template 'total and deterministic' (their statements: YtclimopeejkdbabTotals.lean).
  GIVEN WITH THE SEED: the statements are not yours to turn. If you find one false, say at which input.
  Laid BY PROGRAM, IN A SANDBOX (cutbox-rows.mjs): the forced cells as the released guide's own fill.sh prints them over the translation 0fbe7be4da55b7ce… (all of the seat's roots in one cut). By AI agents, Wed Nov 11 2026. No macro, syntax, notation, axiom, sorry.
-/
import Derived.Test.YtclimopeejkdbabChecked
import GoSem.Claim
import GoSem.ClaimJoined
import GoSem.ClaimMapViews
import Derived.JoinedTies
import Derived.KernelRfl
namespace Go.Proofs.Ytclimopeejkdbab
/- THE CELL 'sum', in the pinned program and in every row, IS THE sha256 OF THE DUMP (.gsa) THAT YtclimopeejkdbabProg.lean LOADS. Nothing in Lean hashes anything: it is a label: what it is worth is what the hold of that sum in a sandbox is worth. -/
noncomputable def Try.pinned : Pinned := { name := "ytclimopeejkdbab", sum := "0fbe7be4da55b7cebb84cbd5cbc932b610f92098ac4aba4b01988a71c9e4e1d0", checked := Try.checked }
namespace Rows
def none {H : Type} : Left H := { results := [], args := [] }

/-- 'tollhouselaw01.BigsizeOrders': WHATEVER THE INPUT: true; the input reads as it did. -/
def bigsizeOrdersSpec : ChangeSpec := { name := "bigsizeOrders", fn := fun _ => fun
  | [d1, d2] => { results := [.lit (.bool true)], args := [d1, d2] }
  | _ => none }
def bigsizeOrdersRow : OpenClaim := { program := "ytclimopeejkdbab", sum := "0fbe7be4da55b7cebb84cbd5cbc932b610f92098ac4aba4b01988a71c9e4e1d0", func := "tollhouse/tollhouselaw01.BigsizeOrders", spec := "bigsizeOrders", apart := false }
def BigsizeOrdersSaid : Prop := bigsizeOrdersRow.holds Try.pinned (OpenSpec.ofChange bigsizeOrdersSpec)

/-- ITS FALSE NEIGHBOUR: 'it returns false'. Refute it at one input. -/
def bigsizeOrdersWrong : ChangeSpec := { name := "bigsizeOrders", fn := fun _ => fun
  | [d1, d2] => { results := [.lit (.bool false)], args := [d1, d2] }
  | _ => none }
def BigsizeOrdersWrongFalsely : Prop := bigsizeOrdersRow.holds Try.pinned (OpenSpec.ofChange bigsizeOrdersWrong)

/-- 'tollhouselaw01.BigsizeJoins': WHATEVER THE INPUT: true; the input reads as it did. -/
def bigsizeJoinsSpec : ChangeSpec := { name := "bigsizeJoins", fn := fun _ => fun
  | [d1, d2] => { results := [.lit (.bool true)], args := [d1, d2] }
  | _ => none }
def bigsizeJoinsRow : OpenClaim := { program := "ytclimopeejkdbab", sum := "0fbe7be4da55b7cebb84cbd5cbc932b610f92098ac4aba4b01988a71c9e4e1d0", func := "tollhouse/tollhouselaw01.BigsizeJoins", spec := "bigsizeJoins", apart := false }
def BigsizeJoinsSaid : Prop := bigsizeJoinsRow.holds Try.pinned (OpenSpec.ofChange bigsizeJoinsSpec)

/-- ITS FALSE NEIGHBOUR: 'it returns false'. Refute it at one input. -/
def bigsizeJoinsWrong : ChangeSpec := { name := "bigsizeJoins", fn := fun _ => fun
  | [d1, d2] => { results := [.lit (.bool false)], args := [d1, d2] }
  | _ => none }
def BigsizeJoinsWrongFalsely : Prop := bigsizeJoinsRow.holds Try.pinned (OpenSpec.ofChange bigsizeJoinsWrong)

/-- 'tollhouselaw02.AmountSums': WHATEVER THE INPUT: true; the input reads as it did. -/
def amountSumsSpec : ChangeSpec := { name := "amountSums", fn := fun _ => fun
  | [d1, d2, d3] => { results := [.lit (.bool true)], args := [d1, d2, d3] }
  | _ => none }
def amountSumsRow : OpenClaim := { program := "ytclimopeejkdbab", sum := "0fbe7be4da55b7cebb84cbd5cbc932b610f92098ac4aba4b01988a71c9e4e1d0", func := "tollhouse/tollhouselaw02.AmountSums", spec := "amountSums", named := ["math/bits.divideError", "math/bits.overflowError"], apart := false }
def AmountSumsSaid : Prop := amountSumsRow.holds Try.pinned (OpenSpec.ofChange amountSumsSpec)

/-- ITS FALSE NEIGHBOUR: 'it returns false'. Refute it at one input. -/
def amountSumsWrong : ChangeSpec := { name := "amountSums", fn := fun _ => fun
  | [d1, d2, d3] => { results := [.lit (.bool false)], args := [d1, d2, d3] }
  | _ => none }
def AmountSumsWrongFalsely : Prop := amountSumsRow.holds Try.pinned (OpenSpec.ofChange amountSumsWrong)

/-- 'tollhouselaw02.AmountFees': WHATEVER THE INPUT: true; the input reads as it did. -/
def amountFeesSpec : ChangeSpec := { name := "amountFees", fn := fun _ => fun
  | [d1, d2] => { results := [.lit (.bool true)], args := [d1, d2] }
  | _ => none }
def amountFeesRow : OpenClaim := { program := "ytclimopeejkdbab", sum := "0fbe7be4da55b7cebb84cbd5cbc932b610f92098ac4aba4b01988a71c9e4e1d0", func := "tollhouse/tollhouselaw02.AmountFees", spec := "amountFees", named := ["math/bits.divideError", "math/bits.overflowError"], apart := false }
def AmountFeesSaid : Prop := amountFeesRow.holds Try.pinned (OpenSpec.ofChange amountFeesSpec)

/-- ITS FALSE NEIGHBOUR: 'it returns false'. Refute it at one input. -/
def amountFeesWrong : ChangeSpec := { name := "amountFees", fn := fun _ => fun
  | [d1, d2] => { results := [.lit (.bool false)], args := [d1, d2] }
  | _ => none }
def AmountFeesWrongFalsely : Prop := amountFeesRow.holds Try.pinned (OpenSpec.ofChange amountFeesWrong)

/-- 'tollhouselaw02.AmountOut': WHATEVER THE INPUT: true; the input reads as it did. -/
def amountOutSpec : ChangeSpec := { name := "amountOut", fn := fun _ => fun
  | [d1, d2] => { results := [.lit (.bool true)], args := [d1, d2] }
  | _ => none }
def amountOutRow : OpenClaim := { program := "ytclimopeejkdbab", sum := "0fbe7be4da55b7cebb84cbd5cbc932b610f92098ac4aba4b01988a71c9e4e1d0", func := "tollhouse/tollhouselaw02.AmountOut", spec := "amountOut", inPlace := ["math/bits.Sub64"], named := ["math/bits.divideError", "math/bits.overflowError"], apart := false }
def AmountOutSaid : Prop := amountOutRow.holds Try.pinned (OpenSpec.ofChange amountOutSpec)

/-- ITS FALSE NEIGHBOUR: 'it returns false'. Refute it at one input. -/
def amountOutWrong : ChangeSpec := { name := "amountOut", fn := fun _ => fun
  | [d1, d2] => { results := [.lit (.bool false)], args := [d1, d2] }
  | _ => none }
def AmountOutWrongFalsely : Prop := amountOutRow.holds Try.pinned (OpenSpec.ofChange amountOutWrong)

/-- 'tollhouselaw02.AmountWay': WHATEVER THE INPUT: true; the input reads as it did. -/
def amountWaySpec : ChangeSpec := { name := "amountWay", fn := fun _ => fun
  | [d1, d2] => { results := [.lit (.bool true)], args := [d1, d2] }
  | _ => none }
def amountWayRow : OpenClaim := { program := "ytclimopeejkdbab", sum := "0fbe7be4da55b7cebb84cbd5cbc932b610f92098ac4aba4b01988a71c9e4e1d0", func := "tollhouse/tollhouselaw02.AmountWay", spec := "amountWay", named := ["math/bits.divideError", "math/bits.overflowError"], apart := false }
def AmountWaySaid : Prop := amountWayRow.holds Try.pinned (OpenSpec.ofChange amountWaySpec)

/-- ITS FALSE NEIGHBOUR: 'it returns false'. Refute it at one input. -/
def amountWayWrong : ChangeSpec := { name := "amountWay", fn := fun _ => fun
  | [d1, d2] => { results := [.lit (.bool false)], args := [d1, d2] }
  | _ => none }
def AmountWayWrongFalsely : Prop := amountWayRow.holds Try.pinned (OpenSpec.ofChange amountWayWrong)

/- THE SECOND FORM. 'bulk': how many values and letters a reading holds, each counted each time it is reached (what is shared counts as often as it is met; a slice's spare places count too). A statement '..UptoSaid' is the law's where the arguments, and the package variables that the reading takes, are together of bulk at most 1048576: NARROWER than '..Said'. Prove '..Said' where nothing that the law and all that it calls make is longer than what came in: it says more and counts as full. Else prove '..UptoSaid'. A law counts once. -/
mutual
def uptoBulk {H : Type} : DataW H → Nat
  | .lit (.string bytes) => bytes.length + 1
  | .lit _ => 1
  | .nil => 1
  | .ptr d => uptoBulk d + 1
  | .slice elems spare => uptoBulkAll elems + uptoBulkAll spare + 1
  | .agg parts => uptoBulkAll parts + 1
  | .iface _ d => uptoBulk d + 1
  | .map entries => uptoBulkEntries entries + 1
  | .held _ => 1
def uptoBulkAll {H : Type} : List (DataW H) → Nat
  | [] => 0
  | d :: r => uptoBulk d + uptoBulkAll r
def uptoBulkEntries {H : Type} : List (Lit × DataW H) → Nat
  | [] => 0
  | x :: r => uptoBulkEntry x + uptoBulkEntries r
def uptoBulkEntry {H : Type} : Lit × DataW H → Nat
  | (.string bytes, d) => bytes.length + uptoBulk d + 1
  | (_, d) => uptoBulk d + 1
 end
def uptoSmall : (H : Type) → List (DataW H) → Bool := fun _ ds => decide (uptoBulkAll ds ≤ 1048576)
def OpenSpec.upto (s : _root_.Go.ChangeSpec) : _root_.Go.OpenSpec := { _root_.Go.OpenSpec.ofChange s with cond := some uptoSmall }

/-- 'tollhouselaw01.BigsizeOrders', WHERE WHAT IT READS IS OF BULK AT MOST 1048576: true; the input reads as it did. -/
def bigsizeOrdersUptoRow : OpenClaim := { program := "ytclimopeejkdbab", sum := "0fbe7be4da55b7cebb84cbd5cbc932b610f92098ac4aba4b01988a71c9e4e1d0", func := "tollhouse/tollhouselaw01.BigsizeOrders", spec := "bigsizeOrders", apart := false, narrowed := true }
def BigsizeOrdersUptoSaid : Prop := bigsizeOrdersUptoRow.holds Try.pinned (OpenSpec.upto bigsizeOrdersSpec)

/-- 'tollhouselaw01.BigsizeJoins', WHERE WHAT IT READS IS OF BULK AT MOST 1048576: true; the input reads as it did. -/
def bigsizeJoinsUptoRow : OpenClaim := { program := "ytclimopeejkdbab", sum := "0fbe7be4da55b7cebb84cbd5cbc932b610f92098ac4aba4b01988a71c9e4e1d0", func := "tollhouse/tollhouselaw01.BigsizeJoins", spec := "bigsizeJoins", apart := false, narrowed := true }
def BigsizeJoinsUptoSaid : Prop := bigsizeJoinsUptoRow.holds Try.pinned (OpenSpec.upto bigsizeJoinsSpec)

/-- 'tollhouselaw02.AmountSums', WHERE WHAT IT READS IS OF BULK AT MOST 1048576: true; the input reads as it did. -/
def amountSumsUptoRow : OpenClaim := { program := "ytclimopeejkdbab", sum := "0fbe7be4da55b7cebb84cbd5cbc932b610f92098ac4aba4b01988a71c9e4e1d0", func := "tollhouse/tollhouselaw02.AmountSums", spec := "amountSums", named := ["math/bits.divideError", "math/bits.overflowError"], apart := false, narrowed := true }
def AmountSumsUptoSaid : Prop := amountSumsUptoRow.holds Try.pinned (OpenSpec.upto amountSumsSpec)

/-- 'tollhouselaw02.AmountFees', WHERE WHAT IT READS IS OF BULK AT MOST 1048576: true; the input reads as it did. -/
def amountFeesUptoRow : OpenClaim := { program := "ytclimopeejkdbab", sum := "0fbe7be4da55b7cebb84cbd5cbc932b610f92098ac4aba4b01988a71c9e4e1d0", func := "tollhouse/tollhouselaw02.AmountFees", spec := "amountFees", named := ["math/bits.divideError", "math/bits.overflowError"], apart := false, narrowed := true }
def AmountFeesUptoSaid : Prop := amountFeesUptoRow.holds Try.pinned (OpenSpec.upto amountFeesSpec)

/-- 'tollhouselaw02.AmountOut', WHERE WHAT IT READS IS OF BULK AT MOST 1048576: true; the input reads as it did. -/
def amountOutUptoRow : OpenClaim := { program := "ytclimopeejkdbab", sum := "0fbe7be4da55b7cebb84cbd5cbc932b610f92098ac4aba4b01988a71c9e4e1d0", func := "tollhouse/tollhouselaw02.AmountOut", spec := "amountOut", inPlace := ["math/bits.Sub64"], named := ["math/bits.divideError", "math/bits.overflowError"], apart := false, narrowed := true }
def AmountOutUptoSaid : Prop := amountOutUptoRow.holds Try.pinned (OpenSpec.upto amountOutSpec)

/-- 'tollhouselaw02.AmountWay', WHERE WHAT IT READS IS OF BULK AT MOST 1048576: true; the input reads as it did. -/
def amountWayUptoRow : OpenClaim := { program := "ytclimopeejkdbab", sum := "0fbe7be4da55b7cebb84cbd5cbc932b610f92098ac4aba4b01988a71c9e4e1d0", func := "tollhouse/tollhouselaw02.AmountWay", spec := "amountWay", named := ["math/bits.divideError", "math/bits.overflowError"], apart := false, narrowed := true }
def AmountWayUptoSaid : Prop := amountWayUptoRow.holds Try.pinned (OpenSpec.upto amountWaySpec)

end Rows
end Go.Proofs.Ytclimopeejkdbab
