/- Contracts of amount.rated and amount.unrated over this seat's translation. -/
import Derived.Test.YtclimopeejkdbabAmtDiv
namespace Go.Proofs.Ytclimopeejkdbab
open Go.RowKit
set_option linter.unusedVariables false

/-- Div64 by a million to two millions, whatever the first word below the divisor -/
theorem div_any (hi lo y : Nat) (w : World) (hlo : lo < 18446744073709551616) (h1 : 1000000 ≤ y) (h2 : y ≤ 2000000) (h3 : hi < y) :
    Calls Try.prog 42 #[.int .u64 hi, .int .u64 lo, .int .u64 y] w fun e w' => ∃ r : Int, e = .returned (.tuple #[.int .u64 (((hi * 18446744073709551616 + lo) / y : Nat) : Int), .int .u64 r]) ∧ Below w.heap.size w w' := by
  by_cases h0 : hi = 0
  · subst h0
    refine (div_small lo y w hlo (by omega) (by omega)).mono fun e w' h => ?_
    rw [show 0 * 18446744073709551616 + lo = lo by omega]
    exact ⟨_, h.1, h.2⟩
  · by_cases h5 : y < 1048576
    · refine (div44 hi lo y w hlo (by omega) h5 h3 (by omega)).mono fun e w' h => ?_
      obtain ⟨r, he, hw⟩ := h
      rw [hw]
      exact ⟨r, he, Below.refl _ _⟩
    · refine (div43 hi lo y w hlo (by omega) (by omega) h3 (by omega)).mono fun e w' h => ?_
      obtain ⟨r, he, hw⟩ := h
      rw [hw]
      exact ⟨r, he, Below.refl _ _⟩

theorem rated_le (n m : Nat) (hm : m ≤ 1000000) : n * m / 1000000 ≤ n := by
  have := Nat.mul_le_mul_left n hm
  omega
theorem rated_hi (n m : Nat) (hn : n ≤ 9223372036854775807) (hm : m ≤ 1000000) : n * m / 18446744073709551616 < 1000000 := by
  have := Nat.mul_le_mul hn hm
  omega

set_option maxRecDepth 100000 in
set_option maxHeartbeats 1000000 in
theorem rated_any (n m : Nat) (w : World) (hn : n ≤ 9223372036854775807) (hm : m ≤ 1000000) :
    Calls Try.prog 34 #[.int .i64 n, .int .i64 m] w fun e w' => e = .returned (.int .i64 ((n * m / 1000000 : Nat) : Int)) ∧ Below w.heap.size w w' := by
  have c1 := mul_any n m w (by omega) (by omega)
  have c2 := div_any (n * m / 18446744073709551616) (n * m % 18446744073709551616) 1000000 w (Nat.mod_lt _ (by omega)) (by omega) (by omega) (rated_hi n m hn hm)
  rw [show n * m / 18446744073709551616 * 18446744073709551616 + n * m % 18446744073709551616 = n * m from Nat.div_add_mod' _ _] at c2
  have hle := rated_le n m hm
  generalize n * m / 18446744073709551616 = H at c1 c2
  generalize n * m % 18446744073709551616 = L at c1 c2
  generalize n * m / 1000000 = X at c2 hle ⊢
  have C1 := hide c1
  have C2 := hide c2
  clear c1 c2
  go_enter Try.func34, Try.ntmps34
  go_wp2_with fail
  refine C1.out.mono ?_
  rintro e w1 ⟨rfl, rfl⟩
  go_wp2_with fail
  refine C2.out.mono ?_
  rintro e w2 ⟨r, rfl, hb⟩
  go_wp2
  go_ret
  exact ⟨rfl, hb⟩

theorem sub64_run (x : Nat) (hx : x < 18446744073709551616) (w : World) :
    ∃ k b : Nat, (∀ w, (callFunc 43 #[.int .u64 (x : Int), .int .u64 1, .int .u64 0]).run Try.prog w = .ok (.value (.tuple #[.int .u64 (k : Int), .int .u64 (b : Int)])) w) ∧ b ≤ 1 ∧ k < 18446744073709551616 ∧ k + 1 = x + b * 18446744073709551616 := by
  refine ⟨(x + 18446744073709551616 - 1 - 0) % 18446744073709551616, if x < 1 + 0 then 1 else 0, fun w => ?_, ?_, ?_, ?_⟩
  · rw [run_callFunc_extern Try.func43 (by kernel_rfl) (by kernel_rfl) (by kernel_rfl) (e := (Extern.MathBitsCarry.rows.getD 1 ("", fun _ => stuck "")).2) (by kernel_rfl)]
    rfl
  · split <;> omega
  · omega
  · split <;> omega

theorem unrated_num (n m H L K B : Nat) (hn : n ≤ 9223372036854775807) (hm : m ≤ 1000000) (hH : H = (n + 1) * 1000000 / 18446744073709551616) (hL : L = (n + 1) * 1000000 % 18446744073709551616)
    (hB : B ≤ 1) (hK : K < 18446744073709551616) (hKB : K + 1 = L + B * 18446744073709551616) :
    B ≤ H ∧ H - B < 1000000 + m ∧ (H - B) * 18446744073709551616 + K = (n + 1) * 1000000 - 1 ∧ ((n + 1) * 1000000 - 1) / (1000000 + m) ≤ n := by
  refine ⟨by omega, by omega, by omega, ?_⟩
  refine Nat.le_of_lt_succ ((Nat.div_lt_iff_lt_mul (by omega)).2 ?_)
  have : (n + 1) * (1000000 + m) = (n + 1) * 1000000 + (n + 1) * m := Nat.mul_add _ _ _
  rw [Nat.succ_eq_add_one, this]
  generalize (n + 1) * m = X
  omega

set_option maxRecDepth 100000 in
set_option maxHeartbeats 1000000 in
theorem unrated_walk (n m H L K B G Y X : Nat) (w : World) (hn : n ≤ 9223372036854775807) (hm : m ≤ 1000000) (hX : X ≤ 9223372036854775807) (hB : B ≤ H) (hH : H < 18446744073709551616) (hBB : B ≤ 1)
    (c1 : Hid (∀ w, Calls Try.prog 41 #[.int .u64 ((n : Int) + 1), .int .u64 1000000] w fun e w' => e = .returned (.tuple #[.int .u64 (H : Int), .int .u64 (L : Int)]) ∧ w' = w))
    (hs : ∀ w, (callFunc 43 #[.int .u64 (L : Int), .int .u64 1, .int .u64 0]).run Try.prog w = .ok (.value (.tuple #[.int .u64 (K : Int), .int .u64 (B : Int)])) w)
    (hd : (H : Int) - (B : Int) = (G : Int)) (hy : (1000000 : Int) + (m : Int) = (Y : Int))
    (c2 : Hid (∀ w, Calls Try.prog 42 #[.int .u64 (G : Int), .int .u64 (K : Int), .int .u64 (Y : Int)] w fun e w' => ∃ r : Int, e = .returned (.tuple #[.int .u64 (X : Int), .int .u64 r]) ∧ Below w.heap.size w w')) :
    Calls Try.prog 37 #[.int .i64 n, .int .i64 m] w fun e w' => e = .returned (.int .i64 (X : Int)) ∧ Below w.heap.size w w' := by
  go_enter Try.func37, Try.ntmps37
  go_wp2_with fail
  refine (c1.out _).mono ?_
  rintro e w1 ⟨rfl, rfl⟩
  go_wp2_with fail
  go_wp2_with fail
  refine (c2.out _).mono ?_
  rintro e w2 ⟨r, rfl, hb⟩
  go_wp2
  go_ret
  exact ⟨rfl, hb⟩

theorem unrated_any (n m : Nat) (w : World) (hn : n ≤ 9223372036854775807) (hm : m ≤ 1000000) :
    Calls Try.prog 37 #[.int .i64 n, .int .i64 m] w fun e w' => e = .returned (.int .i64 ((((n + 1) * 1000000 - 1) / (1000000 + m) : Nat) : Int)) ∧ Below w.heap.size w w' := by
  obtain ⟨H, hH⟩ : ∃ H, H = (n + 1) * 1000000 / 18446744073709551616 := ⟨_, rfl⟩
  obtain ⟨L, hL⟩ : ∃ L, L = (n + 1) * 1000000 % 18446744073709551616 := ⟨_, rfl⟩
  obtain ⟨K, B, hs, hB, hK, hKB⟩ := sub64_run L (by omega) w
  obtain ⟨d1, d2, d3, d4⟩ := unrated_num n m H L K B hn hm hH hL hB hK hKB
  have c2 := fun w => div_any (H - B) K (1000000 + m) w hK (by omega) (by omega) d2
  rw [d3] at c2
  obtain ⟨X, hX⟩ : ∃ X, X = ((n + 1) * 1000000 - 1) / (1000000 + m) := ⟨_, rfl⟩
  rw [← hX] at c2 d4 ⊢
  refine unrated_walk n m H L K B (H - B) (1000000 + m) X w hn hm (by omega) d1 (by omega) hB ?_ hs (by omega) (by omega) c2
  intro w
  have c1 := mul_any (n + 1) 1000000 w (by omega) (by omega)
  rw [← hH, ← hL] at c1
  exact c1
end Go.Proofs.Ytclimopeejkdbab
