/- The contract of math/bits.Div64 at divisors of 20 or 21 bits, over this seat's translation. -/
import Derived.Test.YtgnkcmmpbohafaaAmtBits
import Derived.Test.YtgnkcmmpbohafaaAmtNum
namespace Go.Proofs.Ytgnkcmmpbohafaa
open Go.RowKit
set_option linter.unusedVariables false

set_option maxRecDepth 100000 in
set_option maxHeartbeats 2000000 in
theorem div_walk44 (hi lo y U V V0 V1 Y Q P R T S P2 R2 : Int) (w : World)
    (b1 : 0 < hi) (b2 : hi < y) (b3 : 524288 ≤ y) (b4 : y < 1048576) (b5 : 0 ≤ lo) (b6 : lo ≤ 18446744073709551615)
    (k1 : 0 ≤ U) (k2 : 0 < Y) (k4 : 0 ≤ Q) (k5 : Q < 4294967296) (k6 : 0 ≤ P) (k7 : P ≤ U) (k7' : U ≤ 18446744073709551615) (k8 : 0 ≤ R) (k9 : R < 4294967296) (k10 : 0 ≤ V1) (k11 : V1 < 4294967296)
    (k12 : 0 ≤ T) (k13 : T ≤ 18446744073709551615) (k14 : 0 ≤ S) (k15 : S < 4294967296) (k16 : 0 ≤ P2) (k17 : P2 ≤ T) (k18 : 0 ≤ R2) (k19 : R2 < 4294967296) (k20 : 0 ≤ V0) (k21 : V0 < 4294967296) (k22 : 0 ≤ V) (k23 : V ≤ 18446744073709551615)
    (g1 : (y == 0) = false) (g2 : (hi == 0) = false) (g3 : decide (4294967296 ≤ Q) = false) (g4 : decide (4294967296 ≤ S) = false)
    (r1 : bits .and .u64 (y * 17592186044416) 4294967295 = 0) (r2 : bits .or .u64 (hi * 17592186044416) (lo / 1048576) = U) (r3 : IntKind.u64.wrap (lo * 17592186044416) = V)
    (r4 : y * 17592186044416 / 4294967296 = Y) (r5 : U / Y = Q) (r6 : Q * Y = P) (r7 : U - P = R) (rv : V / 4294967296 = V1) (rw0 : bits .and .u64 V 4294967295 = V0)
    (r8 : IntKind.u64.wrap (IntKind.u64.wrap (IntKind.u64.wrap (U * 4294967296) + V1) - IntKind.u64.wrap (Q * (y * 17592186044416))) = T) (r9 : T / Y = S) (r10 : S * Y = P2) (r11 : T - P2 = R2) :
    Calls Try.prog 117 #[.int .u64 hi, .int .u64 lo, .int .u64 y] w fun e w' => ∃ r : Int, e = .returned (.tuple #[.int .u64 (Q * 4294967296 + S), .int .u64 r]) ∧ w' = w := by
  go_enter Try.func117, Try.ntmps117
  go_wp2_with (go_at_call 119; refine (lz44 _ _ (by omega) (by omega)).mono ?_; rintro e w' ⟨rfl, rfl⟩)
  refine wp_loop_rounds 1 ?_
  rw [rounds_succ]
  go_wp2
  refine wp_loop_rounds 1 ?_
  rw [rounds_succ]
  go_wp2
  go_ret2
  exact ⟨_, ret2 (k := .u64) rfl rfl, rfl⟩

/-- the quotient; the rest is some number -/
theorem div44 (hi lo y : Nat) (w : World) (hlo : lo < 18446744073709551616) (h1 : 524288 ≤ y) (h2 : y < 1048576) (h3 : hi < y) (h4 : 0 < hi) :
    Calls Try.prog 117 #[.int .u64 hi, .int .u64 lo, .int .u64 y] w fun e w' => ∃ r : Int, e = .returned (.tuple #[.int .u64 (((hi * 18446744073709551616 + lo) / y : Nat) : Int), .int .u64 r]) ∧ w' = w := by
  obtain ⟨U, V, V0, V1, Y, Q, P, R, T, S, P2, R2, hf, ⟨k1, k2, k4, k5, k6, k7, k7', k8, k9, k10, k11⟩, ⟨k12, k13, k14, k15, k16, k17, k18, k19, k20, k21, k22, k23⟩, r1, r2, r3, r4, r5, r6, r7, rv, rw0, r8, r9, r10, r11⟩ := D44.all hi lo y hlo h1 h2 h3
  rw [hf]
  have g1 : ((y : Int) == 0) = false := by simp; omega
  have g2 : ((hi : Int) == 0) = false := by simp; omega
  have g3 : decide (4294967296 ≤ Q) = false := by simp; exact k5
  have g4 : decide (4294967296 ≤ S) = false := by simp; exact k15
  have b1 : 0 < (hi : Int) := by omega
  have b2 : (hi : Int) < (y : Int) := by omega
  have b3 : 524288 ≤ (y : Int) := by omega
  have b4 : (y : Int) < 1048576 := by omega
  have b5 : 0 ≤ (lo : Int) := by omega
  have b6 : (lo : Int) ≤ 18446744073709551615 := by omega
  exact div_walk44 hi lo y U V V0 V1 Y Q P R T S P2 R2 w b1 b2 b3 b4 b5 b6 k1 k2 k4 k5 k6 k7 k7' k8 k9 k10 k11 k12 k13 k14 k15 k16 k17 k18 k19 k20 k21 k22 k23 g1 g2 g3 g4 r1 r2 r3 r4 r5 r6 r7 rv rw0 r8 r9 r10 r11

set_option maxRecDepth 100000 in
set_option maxHeartbeats 2000000 in
theorem div_walk43 (hi lo y U V V0 V1 Y Q P R T S P2 R2 : Int) (w : World)
    (b1 : 0 < hi) (b2 : hi < y) (b3 : 1048576 ≤ y) (b4 : y < 2097152) (b5 : 0 ≤ lo) (b6 : lo ≤ 18446744073709551615)
    (k1 : 0 ≤ U) (k2 : 0 < Y) (k4 : 0 ≤ Q) (k5 : Q < 4294967296) (k6 : 0 ≤ P) (k7 : P ≤ U) (k7' : U ≤ 18446744073709551615) (k8 : 0 ≤ R) (k9 : R < 4294967296) (k10 : 0 ≤ V1) (k11 : V1 < 4294967296)
    (k12 : 0 ≤ T) (k13 : T ≤ 18446744073709551615) (k14 : 0 ≤ S) (k15 : S < 4294967296) (k16 : 0 ≤ P2) (k17 : P2 ≤ T) (k18 : 0 ≤ R2) (k19 : R2 < 4294967296) (k20 : 0 ≤ V0) (k21 : V0 < 4294967296) (k22 : 0 ≤ V) (k23 : V ≤ 18446744073709551615)
    (g1 : (y == 0) = false) (g2 : (hi == 0) = false) (g3 : decide (4294967296 ≤ Q) = false) (g4 : decide (4294967296 ≤ S) = false)
    (r1 : bits .and .u64 (y * 8796093022208) 4294967295 = 0) (r2 : bits .or .u64 (hi * 8796093022208) (lo / 2097152) = U) (r3 : IntKind.u64.wrap (lo * 8796093022208) = V)
    (r4 : y * 8796093022208 / 4294967296 = Y) (r5 : U / Y = Q) (r6 : Q * Y = P) (r7 : U - P = R) (rv : V / 4294967296 = V1) (rw0 : bits .and .u64 V 4294967295 = V0)
    (r8 : IntKind.u64.wrap (IntKind.u64.wrap (IntKind.u64.wrap (U * 4294967296) + V1) - IntKind.u64.wrap (Q * (y * 8796093022208))) = T) (r9 : T / Y = S) (r10 : S * Y = P2) (r11 : T - P2 = R2) :
    Calls Try.prog 117 #[.int .u64 hi, .int .u64 lo, .int .u64 y] w fun e w' => ∃ r : Int, e = .returned (.tuple #[.int .u64 (Q * 4294967296 + S), .int .u64 r]) ∧ w' = w := by
  go_enter Try.func117, Try.ntmps117
  go_wp2_with (go_at_call 119; refine (lz43 _ _ (by omega) (by omega)).mono ?_; rintro e w' ⟨rfl, rfl⟩)
  refine wp_loop_rounds 1 ?_
  rw [rounds_succ]
  go_wp2
  refine wp_loop_rounds 1 ?_
  rw [rounds_succ]
  go_wp2
  go_ret2
  exact ⟨_, ret2 (k := .u64) rfl rfl, rfl⟩

/-- the quotient; the rest is some number -/
theorem div43 (hi lo y : Nat) (w : World) (hlo : lo < 18446744073709551616) (h1 : 1048576 ≤ y) (h2 : y < 2097152) (h3 : hi < y) (h4 : 0 < hi) :
    Calls Try.prog 117 #[.int .u64 hi, .int .u64 lo, .int .u64 y] w fun e w' => ∃ r : Int, e = .returned (.tuple #[.int .u64 (((hi * 18446744073709551616 + lo) / y : Nat) : Int), .int .u64 r]) ∧ w' = w := by
  obtain ⟨U, V, V0, V1, Y, Q, P, R, T, S, P2, R2, hf, ⟨k1, k2, k4, k5, k6, k7, k7', k8, k9, k10, k11⟩, ⟨k12, k13, k14, k15, k16, k17, k18, k19, k20, k21, k22, k23⟩, r1, r2, r3, r4, r5, r6, r7, rv, rw0, r8, r9, r10, r11⟩ := D43.all hi lo y hlo h1 h2 h3
  rw [hf]
  have g1 : ((y : Int) == 0) = false := by simp; omega
  have g2 : ((hi : Int) == 0) = false := by simp; omega
  have g3 : decide (4294967296 ≤ Q) = false := by simp; exact k5
  have g4 : decide (4294967296 ≤ S) = false := by simp; exact k15
  have b1 : 0 < (hi : Int) := by omega
  have b2 : (hi : Int) < (y : Int) := by omega
  have b3 : 1048576 ≤ (y : Int) := by omega
  have b4 : (y : Int) < 2097152 := by omega
  have b5 : 0 ≤ (lo : Int) := by omega
  have b6 : (lo : Int) ≤ 18446744073709551615 := by omega
  exact div_walk43 hi lo y U V V0 V1 Y Q P R T S P2 R2 w b1 b2 b3 b4 b5 b6 k1 k2 k4 k5 k6 k7 k7' k8 k9 k10 k11 k12 k13 k14 k15 k16 k17 k18 k19 k20 k21 k22 k23 g1 g2 g3 g4 r1 r2 r3 r4 r5 r6 r7 rv rw0 r8 r9 r10 r11
end Go.Proofs.Ytgnkcmmpbohafaa
