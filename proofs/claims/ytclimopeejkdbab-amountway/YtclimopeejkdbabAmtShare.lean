/- Contracts of amount.Share, and of the document's Share, over this seat's translation. -/
import Derived.Test.YtclimopeejkdbabAmt
namespace Go.Proofs.Ytclimopeejkdbab
open Go.RowKit
set_option linter.unusedVariables false

/-- the part i of x in n parts -/
def shareN (x n i : Int) : Int := if x < 0 ∨ n < 1 ∨ 65536 < n ∨ i < 0 ∨ n ≤ i then 0 else if i < x % n then x / n + 1 else x / n

theorem div_le_self {x n : Int} (h : 0 ≤ x) (hn : 1 ≤ n) : 0 ≤ x / n ∧ x / n ≤ x := by
  refine ⟨Int.ediv_nonneg h (by omega), Int.ediv_le_self _ h⟩

theorem share_lt {x n i : Int} (h : 0 ≤ x) (hn : 1 ≤ n) (hi : 0 ≤ i) (hr : i < x % n) (hx : x ≤ 9223372036854775807) : x / n ≤ 9223372036854775806 := by
  by_cases h2 : n = 1
  · subst h2; simp at hr; omega
  · have h3 : 2 ≤ n := by omega
    have h4 : x / n * n ≤ x := Int.ediv_mul_le x (by omega)
    have h5 : x / n * 2 ≤ x / n * n := Int.mul_le_mul_of_nonneg_left h3 (div_le_self h hn).1
    omega

set_option maxHeartbeats 1000000 in
theorem share_any (x n i : Int) (w : World) (x1 : -9223372036854775808 ≤ x) (x2 : x ≤ 9223372036854775807) (n1 : -9223372036854775808 ≤ n) (n2 : n ≤ 9223372036854775807) (i1 : -9223372036854775808 ≤ i) (i2 : i ≤ 9223372036854775807) :
    Calls Try.prog 32 #[.int .i64 x, .int .i64 n, .int .i64 i] w fun e w' => e = .returned (.int .i64 (shareN x n i)) ∧ Below w.heap.size w w' := by
  have hB : ∀ o, Below w.heap.size w (w.alloc o) := fun o => (Below.refl _ _).alloc (Nat.le_refl _) o
  by_cases hn : x < 0 ∨ n < 1 ∨ 65536 < n ∨ i < 0 ∨ n ≤ i
  · have e1 : shareN x n i = 0 := by unfold shareN; rw [if_pos hn]
    rw [e1]
    clear e1
    by_cases hx : x < 0
    · clear hn
      go_enter Try.func32, Try.ntmps32
      go_wp2_with (go_at_call 31; refine (may_one_no x w hx).mono ?_; rintro e w' ⟨rfl, rfl⟩)
      go_ret
      exact ⟨rfl, hB _⟩
    · have hx' : 0 ≤ x := by omega
      have hn' : n < 1 ∨ 65536 < n ∨ i < 0 ∨ n ≤ i := by omega
      clear hn hx
      by_cases c1 : n < 1
      · clear hn'
        go_enter Try.func32, Try.ntmps32
        go_wp2_with (go_at_call 31; refine (may_one_yes x w hx' x2).mono ?_; rintro e w' ⟨rfl, rfl⟩)
        go_ret
        exact ⟨rfl, hB _⟩
      · by_cases c2 : 65536 < n
        · clear hn'
          go_enter Try.func32, Try.ntmps32
          go_wp2_with (go_at_call 31; refine (may_one_yes x w hx' x2).mono ?_; rintro e w' ⟨rfl, rfl⟩)
          go_ret
          exact ⟨rfl, hB _⟩
        · by_cases c3 : i < 0
          · clear hn'
            go_enter Try.func32, Try.ntmps32
            go_wp2_with (go_at_call 31; refine (may_one_yes x w hx' x2).mono ?_; rintro e w' ⟨rfl, rfl⟩)
            go_ret
            exact ⟨rfl, hB _⟩
          · have c4 : n ≤ i := by omega
            clear hn'
            go_enter Try.func32, Try.ntmps32
            go_wp2_with (go_at_call 31; refine (may_one_yes x w hx' x2).mono ?_; rintro e w' ⟨rfl, rfl⟩)
            go_ret
            exact ⟨rfl, hB _⟩
  · have c0 : 0 ≤ x := by omega
    have c1 : 1 ≤ n := by omega
    have c2 : n ≤ 65536 := by omega
    have c3 : 0 ≤ i := by omega
    have c4 : i < n := by omega
    have d0 := div_le_self c0 c1
    by_cases hr : i < x % n
    · have e1 : shareN x n i = x / n + 1 := by unfold shareN; rw [if_neg hn, if_pos hr]
      have d1 := share_lt c0 c1 c3 hr x2
      rw [e1]
      clear e1 hn
      go_enter Try.func32, Try.ntmps32
      go_wp2_with (go_at_call 31; refine (may_one_yes x w c0 x2).mono ?_; rintro e w' ⟨rfl, rfl⟩)
      go_ret
      exact ⟨rfl, hB _⟩
    · have e1 : shareN x n i = x / n := by unfold shareN; rw [if_neg hn, if_neg hr]
      rw [e1]
      clear e1 hn
      go_enter Try.func32, Try.ntmps32
      go_wp2_with (go_at_call 31; refine (may_one_yes x w c0 x2).mono ?_; rintro e w' ⟨rfl, rfl⟩)
      go_ret
      exact ⟨rfl, hB _⟩
end Go.Proofs.Ytclimopeejkdbab
