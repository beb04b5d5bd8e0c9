/- The contract of the document's copied over this seat's translation, for every field. -/
import Derived.Test.YtcbadmkgbaffpaaRCopA
import Derived.Test.YtcbadmkgbaffpaaRCopB
import Derived.Test.YtcbadmkgbaffpaaRCopC
import Derived.Test.YtcbadmkgbaffpaaRCopD
namespace Go.Proofs.Ytcbadmkgbaffpaa
open Go.RowKit
set_option linter.unusedVariables false

/-- copied: one field of a message into another one -/
theorem copied_any (i : Nat) (hi : i < 12) (K K' : Int) (F F' : Nat → Fld) (hF : Fits F) (hF' : Fits F') (w : World) :
    Calls Try.prog 31 #[.agg (mc K F).toArray, .agg (mc K' F').toArray, .int .u64 (2 * (i : Int) + 1)] w fun e w' => e = .returned (.agg (mc K (upd F i (F' i))).toArray) ∧ Hid (Below w.heap.size w w') := by
  match i, hi with
  | 0, _ => exact cop0 K K' F F' hF hF' w
  | 1, _ => exact cop1 K K' F F' hF hF' w
  | 2, _ => exact cop2 K K' F F' hF hF' w
  | 3, _ => exact cop3 K K' F F' hF hF' w
  | 4, _ => exact cop4 K K' F F' hF hF' w
  | 5, _ => exact cop5 K K' F F' hF hF' w
  | 6, _ => exact cop6 K K' F F' hF hF' w
  | 7, _ => exact cop7 K K' F F' hF hF' w
  | 8, _ => exact cop8 K K' F F' hF hF' w
  | 9, _ => exact cop9 K K' F F' hF hF' w
  | 10, _ => exact cop10 K K' F F' hF hF' w
  | 11, _ => exact cop11 K K' F F' hF hF' w
end Go.Proofs.Ytcbadmkgbaffpaa
