/- The contract of the bigsize statements' lives over this seat's translation. -/
import Derived.Test.YtcbadmkgbaffpaaRefRead
namespace Go.Proofs.Ytcbadmkgbaffpaa
open Go.RowKit
set_option linter.unusedVariables false

theorem made_isB (w : World) (n : Nat) (hn : n = w.heap.size) (zs : List Int) (cap : Nat) : IsB (w.alloc (.cells (U8 zs).toArray 5)) (some ⟨n, 0, none⟩) cap zs := by
  refine .inr ⟨_, rfl, fun j u hu => ?_⟩
  rw [addr_add, World.cell?_alloc_at _ _ _ _ hn]
  simpa using hu
end Go.Proofs.Ytcbadmkgbaffpaa
