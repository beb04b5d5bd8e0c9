/- Helpers for the loop that puts records and types together. -/
import Derived.Test.YtclimopeejkdbaaOddEnd
import Derived.Deep.RegionHeld3
namespace Go.Proofs.Ytclimopeejkdbaa
open Go.RowKit
set_option linter.unusedVariables false

theorem Try.info22 : (Try.prog.info? 22).map (fun i => (i.zero, i.size, i.bytes)) = some (some (.int .u64 0), 1, 8) := by kernel_rfl
theorem or_one (x : Int) (h0 : 0 ≤ x) (h1 : x ≤ 18446744073709551615) : 0 ≤ bits .or .u64 x 1 ∧ bits .or .u64 x 1 ≤ 18446744073709551615 ∧ bits .or .u64 x 1 % 2 = 1 := by
  obtain ⟨n, rfl⟩ := Int.eq_ofNat_of_zero_le h0
  have h := bits_or_u64_nat n 1 (by omega) (by omega)
  rw [show ((1 : Nat) : Int) = 1 from rfl] at h
  have e : n ||| 1 = n / 2 * 2 + 1 := by
    have e2 := Nat.two_pow_add_eq_or_of_lt (i := 1) (b := 1) (by omega) (n / 2)
    have e3 : n = 2 * (n / 2) + n % 2 := by omega
    by_cases hn : n % 2 = 0
    · have e4 : n = 2 ^ 1 * (n / 2) := by omega
      rw [e4, ← e2]; omega
    · have e4 : n = 2 ^ 1 * (n / 2) + 1 := by omega
      have e5 : n = 2 ^ 1 * (n / 2) ||| 1 := by rw [← e2]; exact e4
      have e6 : n ||| 1 = n := by
        rw [e5, Nat.or_assoc, Nat.or_self]
      omega
  rw [h, e]
  omega

def U64L (ty : Nat → Int) (k : Nat) : List Value := (List.range k).map fun j => .int .u64 (ty j)
theorem U64L_succ (ty : Nat → Int) (k : Nat) : U64L ty (k + 1) = U64L ty k ++ [.int .u64 (ty k)] := by simp [U64L, List.range_succ]
theorem own_isU {w : World} {B k : Nat} {v : Value} {ty : Nat → Int} (h : w.ownsRow B 22 1 v k (U64L ty k)) : ∃ ao cap, v = .slice ao k cap ∧ IsU w ao k ty := by
  have hcells := fun (g : Nat) hg => h.cells (g := g) hg
  rcases h.2 with ⟨rfl, rfl⟩ | ⟨g, cap, cur, rfl, _, hg, _⟩
  · exact ⟨none, 0, rfl, .inl rfl⟩
  · refine ⟨_, cap, rfl, .inr ⟨g, 0, rfl, (Array.getElem?_eq_some_iff.1 hg).1, fun j hj => ?_⟩⟩
    have := hcells g rfl j (.int .u64 (ty j)) (by simp [U64L, hj])
    rw [addr_add] at this
    exact this
/-- one row grows, the other one of another type stays -/
theorem other_row {W W1 : World} {B e s n e' s' m : Nat} {v u : Value} {xs ys : List Value} {o : Obj} (h : W.ownsRow B e s v n xs) (k : W.ownsRow B e' s' u m ys) (hne : e ≠ e') (hg : (W.alloc o).grownBy W1 v.ownBlock) : W1.ownsRow B e' s' u m ys :=
  (owns_below k (below_alloc W o)).kept hg (tag_ne (owns_below h (below_alloc W o)) (owns_below k (below_alloc W o)) hne)
theorem below_grown {B : Nat} {w W W1 : World} {v : Value} {e s n : Nat} {xs : List Value} {o : Obj} (hb : Below B w W) (hB : B ≤ W.heap.size) (h : W.ownsRow B e s v n xs) (hg : (W.alloc o).grownBy W1 v.ownBlock) : Below B w W1 :=
  (hb.alloc hB o).grown hg (by simp; omega) (fun i hi => (h.lt i hi).1)
theorem row_shape {w : World} {B n : Nat} {e : TypeId} {s : Nat} {v : Value} {xs : List Value} (h : w.ownsRow B e s v n xs) : ∃ a c, v = .slice a n c := by
  rcases h.2 with ⟨h1, h2⟩ | ⟨g, c, cur, h1, _⟩
  · exact ⟨none, 0, by rw [h1, h2]⟩
  · exact ⟨_, c, h1⟩
theorem one_u64 {x : Int} : ∀ u ∈ [Value.int .u64 x], u.oneCell' = true := by
  intro u hu
  rw [List.mem_singleton.1 hu]
  rfl
end Go.Proofs.Ytclimopeejkdbaa
