/- The contract of lives over this seat's translation. -/
import Derived.Test.YtdmhcgneafacmaaFLive
import Derived.Lib.SlBytesConst
namespace Go.Proofs.Ytdmhcgneafacmaa
open Go.RowKit
set_option linter.unusedVariables false
set_option linter.unusedSimpArgs false
set_option maxRecDepth 100000

set_option maxHeartbeats 4000000 in
theorem lives_any (w : World) : Calls Try.prog 9 #[] w fun e w' => e = .returned (.bool true) ∧ Hid (Below w.heap.size w w') := by
  have H7 := lives_all w
  generalize w.heap.size + 2 = f at H7
  generalize w.heap.size = B at H7 ⊢
  have kc := fun (w : World) (C : Array Value) (n c : Nat) => Lib.run_convert_bytes_const (P := Try.prog) w 31 5 C n c Try.underlying31 Try.underlying5
  go_enter Try.func9, Try.ntmps9
  go_wp2_with (first
    | (go_at_call 7; refine H7.out.mono ?_; rintro e w1 ⟨rfl, HA1⟩)
    | (go_at_call 11; have _t := HA1; refine HA1.out.mono ?_; rintro e w2 ⟨rfl, HA2⟩; clear HA1)
    | (go_at_call 11; refine HA2.out.mono ?_; rintro e w3 ⟨rfl, HU, HCR⟩)
    | (go_at_call 18; refine HU.out.mono ?_; rintro e w4 ⟨rfl, rfl⟩)
    | (go_at_call 19; refine HCR.out.mono ?_; rintro e w5 ⟨rfl, HR1⟩)
    | (go_at_call 21; have _t := HR1; refine HR1.out.mono ?_; rintro e w6 ⟨ao, cap, rfl, HR2⟩; clear HR1)
    | (go_at_call 21; refine HR2.out.mono ?_; rintro e w7 ⟨rfl, hcv, hcv2, HL⟩; have cv := hcv.out)
    | (go_at_call 23; refine HL.out.mono ?_; rintro e w8 ⟨rfl, HB⟩))
  go_ret
  exact ⟨rfl, HB⟩
end Go.Proofs.Ytdmhcgneafacmaa
