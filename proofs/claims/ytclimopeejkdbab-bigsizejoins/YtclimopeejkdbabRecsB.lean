/- Records that lie in memory. -/
import Derived.Test.YtclimopeejkdbabBigLivesB
import Derived.Test.YtclimopeejkdbabBigRowB
namespace Go.Proofs.Ytclimopeejkdbab
open Go.RowKit
set_option linter.unusedVariables false

/-- records that lie in memory: of each its type, its value's slice and bytes -/
structure Recs (w : World) (b off len : Nat) (ty : Nat → Int) (ao : Nat → Option Addr) (cp : Nat → Nat) (L : Nat → List Int) : Prop where
  lt : b < w.heap.size
  type : ∀ k, k < len → w.cell? ⟨b, off + k * 2, none⟩ = some (.int .u64 (ty k))
  value : ∀ k, k < len → w.cell? ⟨b, off + k * 2 + 1, none⟩ = some (.slice (ao k) (L k).length (cp k))
  bytes : ∀ k, k < len → IsB w (ao k) (cp k) (L k)

theorem Recs.below {w w' : World} {b off len : Nat} {ty : Nat → Int} {ao : Nat → Option Addr} {cp : Nat → Nat} {L : Nat → List Int} (h : Recs w b off len ty ao cp L) (hb : Below w.heap.size w w') : Recs w' b off len ty ao cp L :=
  ⟨Nat.lt_of_lt_of_le h.lt hb.size, fun k hk => (hb.cell (by exact h.lt)).trans (h.type k hk), fun k hk => (hb.cell (by exact h.lt)).trans (h.value k hk), fun k hk => (h.bytes k hk).below hb⟩

end Go.Proofs.Ytclimopeejkdbab
