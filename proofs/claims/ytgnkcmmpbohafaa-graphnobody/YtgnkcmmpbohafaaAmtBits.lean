/- Contracts of math/bits.Mul64, LeadingZeros64 and Div64, as package amount calls them, over this seat's translation. -/
import Derived.Test.YtgnkcmmpbohafaaAmt
import Derived.Lib.Mul64
import Derived.Laws.Bits64b
import Derived.BigQuiet
import Derived.Deep.QuietTactic
namespace Go.Proofs.Ytgnkcmmpbohafaa
open Go.RowKit
set_option linter.unusedVariables false

namespace M64
theorem mask (a : Nat) (h : a < 18446744073709551616) : bits .and .u64 (a : Int) 4294967295 = ((a % 4294967296 : Nat) : Int) := by
  rw [← Nat.and_two_pow_sub_one_eq_mod a 32]
  exact bits_and_u64_nat a 4294967295 h (by omega)
theorem dv (a : Nat) : (a : Int) / 4294967296 = ((a / 4294967296 : Nat) : Int) := by omega
theorem ml (a b : Nat) : (a : Int) * (b : Int) = ((a * b : Nat) : Int) := (Int.natCast_mul a b).symm
theorem ad (a b : Nat) : (a : Int) + (b : Int) = ((a + b : Nat) : Int) := (Int.natCast_add a b).symm
theorem wr (a : Nat) (h : a < 18446744073709551616) : IntKind.u64.wrap (a : Int) = (a : Int) := by rw [IntKind.wrap_u64]; omega
theorem wm (a : Nat) : IntKind.u64.wrap (a : Int) = ((a % 18446744073709551616 : Nat) : Int) := by rw [IntKind.wrap_u64]; omega
end M64

set_option maxRecDepth 100000 in
set_option maxHeartbeats 4000000 in
theorem lz44 (y : Int) (w : World) (h1 : 524288 ≤ y) (h2 : y < 1048576) :
    Calls Try.prog 119 #[.int .u64 y] w fun e w' => e = .returned (.int .i64 44) ∧ w' = w := by
  rcases (show y / 65536 = 8 ∨ y / 65536 = 9 ∨ y / 65536 = 10 ∨ y / 65536 = 11 ∨ y / 65536 = 12 ∨ y / 65536 = 13 ∨ y / 65536 = 14 ∨ y / 65536 = 15 from by omega) with h | h | h | h | h | h | h | h
  all_goals
    go_enter Try.func119, Try.ntmps119
    go_wp2
    go_ret
    exact ⟨by kernel_rfl, rfl⟩

set_option maxRecDepth 100000 in
set_option maxHeartbeats 4000000 in
theorem lz43 (y : Int) (w : World) (h1 : 1048576 ≤ y) (h2 : y < 2097152) :
    Calls Try.prog 119 #[.int .u64 y] w fun e w' => e = .returned (.int .i64 43) ∧ w' = w := by
  rcases (show y / 65536 = 16 ∨ y / 65536 = 17 ∨ y / 65536 = 18 ∨ y / 65536 = 19 ∨ y / 65536 = 20 ∨ y / 65536 = 21 ∨ y / 65536 = 22 ∨ y / 65536 = 23 ∨ y / 65536 = 24 ∨ y / 65536 = 25 ∨ y / 65536 = 26 ∨ y / 65536 = 27 ∨ y / 65536 = 28 ∨ y / 65536 = 29 ∨ y / 65536 = 30 ∨ y / 65536 = 31 from by omega) with h | h | h | h | h | h | h | h | h | h | h | h | h | h | h | h
  all_goals
    go_enter Try.func119, Try.ntmps119
    go_wp2
    go_ret
    exact ⟨by kernel_rfl, rfl⟩

set_option maxHeartbeats 1000000 in
theorem mul_any (x y : Nat) (w : World) (hx : x < 18446744073709551616) (hy : y < 18446744073709551616) :
    Calls Try.prog 116 #[.int .u64 x, .int .u64 y] w fun e w' => e = .returned (.tuple #[.int .u64 ((x * y / 18446744073709551616 : Nat) : Int), .int .u64 ((x * y % 18446744073709551616 : Nat) : Int)]) ∧ w' = w := by
  obtain ⟨g1, g2, g3, g4⟩ := Lib.mul64_hi x y hx hy
  have k1 := Lib.half_mul_le (a := x / 4294967296) (b := y / 4294967296) (by omega) (by omega)
  have k2 := Lib.half_mul_le (a := x / 4294967296) (b := y % 4294967296) (by omega) (by omega)
  have k3 := Lib.half_mul_le (a := x % 4294967296) (b := y / 4294967296) (by omega) (by omega)
  go_enter Try.func116, Try.ntmps116
  go_wp2
  go_ret2
  refine ⟨ret2 (k := .u64) ?_ ?_, rfl⟩
  · show IntKind.u64.wrap _ = _
    simp only [M64.mask x hx, M64.mask y hy, M64.dv, M64.ml, M64.ad, M64.wr _ g1, M64.wr _ (show x / 4294967296 * (y % 4294967296) < 18446744073709551616 by omega), M64.wr _ g2, M64.mask _ g2, M64.wr _ (show x % 4294967296 * (y / 4294967296) < 18446744073709551616 by omega), M64.wr _ g3, M64.wr _ (show x / 4294967296 * (y / 4294967296) < 18446744073709551616 by omega)]
    rw [M64.wr _ (by omega), M64.ad, M64.wr _ (by omega), g4]
  · show IntKind.u64.wrap _ = _
    rw [M64.ml, M64.wm]

set_option maxHeartbeats 1000000 in
theorem div_small (lo y : Nat) (w : World) (hlo : lo < 18446744073709551616) (hy : 0 < y) (hy2 : y < 18446744073709551616) :
    Calls Try.prog 117 #[.int .u64 0, .int .u64 lo, .int .u64 y] w fun e w' => e = .returned (.tuple #[.int .u64 ((lo / y : Nat) : Int), .int .u64 ((lo % y : Nat) : Int)]) ∧ Below w.heap.size w w' := by
  have g1 : ((y : Int) == 0) = false := by simp; omega
  go_enter Try.func117, Try.ntmps117
  go_wp2
  go_quiet (fail)
  go_wp2
  go_ret2
  refine ⟨ret2 (k := .u64) ?_ ?_, ?_⟩
  · show IntKind.u64.wrap _ = _
    rw [← Int.natCast_ediv, M64.wr _ (Nat.lt_of_le_of_lt (Nat.div_le_self _ _) hlo)]
  · show (lo : Int) % (y : Int) = _
    rw [Int.natCast_emod]
  · exact below_drewN (Below.refl _ _) _

end Go.Proofs.Ytgnkcmmpbohafaa
