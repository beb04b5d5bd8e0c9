/- Contracts of amount.rated and amount.unrated over this seat's translation. -/
import Derived.Test.YtgnkcmmpbohafaaAmtDiv
namespace Go.Proofs.Ytgnkcmmpbohafaa
open Go.RowKit
set_option linter.unusedVariables false

/-- Div64 by a million to two millions, whatever the first word below the divisor -/
theorem div_any (hi lo y : Nat) (w : World) (hlo : lo < 18446744073709551616) (h1 : 1000000 ≤ y) (h2 : y ≤ 2000000) (h3 : hi < y) :
    Calls Try.prog 117 #[.int .u64 hi, .int .u64 lo, .int .u64 y] w fun e w' => ∃ r : Int, e = .returned (.tuple #[.int .u64 (((hi * 18446744073709551616 + lo) / y : Nat) : Int), .int .u64 r]) ∧ Below w.heap.size w w' := by
  by_cases h0 : hi = 0
  · subst h0
    refine (div_small lo y w hlo (by omega) (by omega)).mono fun e w' h => ?_
    rw [show 0 * 18446744073709551616 + lo = lo by omega]
    exact ⟨_, h.1, h.2⟩
  · by_cases h5 : y < 1048576
    · refine (div44 hi lo y w hlo (by omega) h5 h3 (by omega)).mono fun e w' h => ?_
      obtain ⟨r, he, hw⟩ := h
      rw [hw]
      exact ⟨r, he, Below.refl _ _⟩
    · refine (div43 hi lo y w hlo (by omega) (by omega) h3 (by omega)).mono fun e w' h => ?_
      obtain ⟨r, he, hw⟩ := h
      rw [hw]
      exact ⟨r, he, Below.refl _ _⟩

theorem rated_le (n m : Nat) (hm : m ≤ 1000000) : n * m / 1000000 ≤ n := by
  have := Nat.mul_le_mul_left n hm
  omega
theorem rated_hi (n m : Nat) (hn : n ≤ 9223372036854775807) (hm : m ≤ 1000000) : n * m / 18446744073709551616 < 1000000 := by
  have := Nat.mul_le_mul hn hm
  omega

set_option maxRecDepth 100000 in
set_option maxHeartbeats 1000000 in
theorem rated_any (n m : Nat) (w : World) (hn : n ≤ 9223372036854775807) (hm : m ≤ 1000000) :
    Calls Try.prog 107 #[.int .i64 n, .int .i64 m] w fun e w' => e = .returned (.int .i64 ((n * m / 1000000 : Nat) : Int)) ∧ Below w.heap.size w w' := by
  have c1 := mul_any n m w (by omega) (by omega)
  have c2 := div_any (n * m / 18446744073709551616) (n * m % 18446744073709551616) 1000000 w (Nat.mod_lt _ (by omega)) (by omega) (by omega) (rated_hi n m hn hm)
  rw [show n * m / 18446744073709551616 * 18446744073709551616 + n * m % 18446744073709551616 = n * m from Nat.div_add_mod' _ _] at c2
  have hle := rated_le n m hm
  generalize n * m / 18446744073709551616 = H at c1 c2
  generalize n * m % 18446744073709551616 = L at c1 c2
  generalize n * m / 1000000 = X at c2 hle ⊢
  have C1 := hide c1
  have C2 := hide c2
  clear c1 c2
  go_enter Try.func107, Try.ntmps107
  go_wp2_with fail
  refine C1.out.mono ?_
  rintro e w1 ⟨rfl, rfl⟩
  go_wp2_with fail
  refine C2.out.mono ?_
  rintro e w2 ⟨r, rfl, hb⟩
  go_wp2
  go_ret
  exact ⟨rfl, hb⟩
end Go.Proofs.Ytgnkcmmpbohafaa
