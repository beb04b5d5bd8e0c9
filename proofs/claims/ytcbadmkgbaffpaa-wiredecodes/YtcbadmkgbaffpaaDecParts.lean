/- Contracts of bigsize.cutValue, slices.Contains, the document's has over this seat's translation. -/
import Derived.Test.YtcbadmkgbaffpaaDecMath
import Derived.Test.YtcbadmkgbaffpaaBigFind
namespace Go.Proofs.Ytcbadmkgbaffpaa
open Go.RowKit
set_option linter.unusedVariables false

theorem isB_drop {w : World} {b off cap cap' : Nat} {R : List Int} (h : IsB w (some ⟨b, off, none⟩) cap R) (n : Nat) : IsB w (some ⟨b, off + n, none⟩) cap' (R.drop n) := by
  rcases h with ⟨h, _⟩ | ⟨x, hx, hc⟩
  · cases h
  · cases hx
    refine .inr ⟨_, rfl, fun j u hu => ?_⟩
    have hu' : (U8 R)[n + j]? = some u := by
      have e : U8 (R.drop n) = (U8 R).drop n := by simp [U8, List.map_drop]
      rw [e, List.getElem?_drop] at hu
      exact hu
    have := hc (n + j) u hu'
    rw [addr_add] at this ⊢
    rw [Nat.add_assoc]
    exact this
theorem isB_take {w : World} {a : Option Addr} {b off cap cap' : Nat} {R : List Int} (h : IsB w (some ⟨b, off, none⟩) cap R) (n : Nat) : IsB w (some ⟨b, off, none⟩) cap' (R.take n) := by
  rcases h with ⟨h, _⟩ | ⟨x, hx, hc⟩
  · cases h
  · cases hx
    refine .inr ⟨_, rfl, fun j u hu => hc j u ?_⟩
    have e : U8 (R.take n) = (U8 R).take n := by simp [U8, List.map_take]
    rw [e, List.getElem?_take] at hu
    split at hu
    · exact hu
    · cases hu
theorem isB_none {w : World} (x : Addr) (c : Nat) : IsB w (some x) c [] := .inr ⟨x, rfl, fun j u hu => by simp [U8] at hu⟩
theorem isB_cap {w : World} {x : Addr} {c c' : Nat} {R : List Int} (h : IsB w (some x) c R) : IsB w (some x) c' R := by
  rcases h with ⟨h, _⟩ | h
  · cases h
  · exact .inr h

set_option maxHeartbeats 1000000 in
theorem cut_bad (ao : Option Addr) (cap : Nat) (R : List Int) (w : World) (hb : IsB w ao cap R) (hcap : R.length ≤ cap) (hl : cap ≤ 9223372036854775807) (hz : Bytes R) (hE : rdE R = 10) :
    Calls Try.prog 60 #[.slice ao R.length cap] w fun e w' => e = .returned (.tuple #[.slice none 0 0, .int .i64 0, .int .i64 10]) ∧ w' = w := by
  have HR := hide (read_any ao cap R w hb hcap hl (getD_all hz))
  rw [hE] at HR
  generalize rdX R = X at *
  generalize rdN R = N at *
  clear hb hz hE
  go_enter Try.func60, Try.ntmps60
  go_wp2_with fail
  refine HR.out.mono ?_
  rintro e w1 ⟨rfl, rfl⟩
  go_wp2
  go_ret3
  exact ⟨rfl, rfl⟩

set_option maxHeartbeats 1000000 in
theorem cut_long (ao : Option Addr) (cap m : Nat) (R : List Int) (w : World) (hb : IsB w ao cap R) (hcap : R.length ≤ cap) (hl : cap ≤ 9223372036854775807) (hz : Bytes R) (hE : rdE R = 0) (hN : rdN R = m) (hm : m ≤ R.length) (hX : (R.length : Int) - m < rdX R) :
    Calls Try.prog 60 #[.slice ao R.length cap] w fun e w' => e = .returned (.tuple #[.slice none 0 0, .int .i64 0, .int .i64 10]) ∧ w' = w := by
  have HR := hide (read_any ao cap R w hb hcap hl (getD_all hz))
  rw [hE, hN] at HR
  generalize rdX R = X at *
  clear hb hz hE
  generalize R.length = n at *
  go_enter Try.func60, Try.ntmps60
  go_wp2_with fail
  refine HR.out.mono ?_
  rintro e w1 ⟨rfl, rfl⟩
  go_wp2
  go_ret3
  exact ⟨rfl, rfl⟩

set_option maxHeartbeats 1000000 in
theorem cut_ok (b off cap m k : Nat) (R : List Int) (w : World) (hb : IsB w (some ⟨b, off, none⟩) cap R) (hcap : R.length ≤ cap) (hl : cap ≤ 9223372036854775807) (hz : Bytes R) (hE : rdE R = 0) (hN : rdN R = m) (hX : rdX R = k) (hm : m + k ≤ R.length) :
    Calls Try.prog 60 #[.slice (some ⟨b, off, none⟩) R.length cap] w fun e w' => ∃ a' c', e = .returned (.tuple #[.slice (some a') k c', .int .i64 (m + k), .int .i64 0]) ∧ Hid (IsB w (some a') c' ((R.drop m).take k)) ∧ w' = w := by
  have HR := hide (read_any _ cap R w hb hcap hl (getD_all hz))
  rw [hE, hN, hX] at HR
  have HI := hide (fun c => isB_take (a := none) (cap' := c) (isB_drop (cap' := cap) hb m) k)
  clear hb hz hE hX hN
  generalize R.length = n at *
  by_cases hc : cap = m
  · have hk : k = 0 := by omega
    subst hc hk
    go_enter Try.func60, Try.ntmps60
    go_wp2_with fail
    refine HR.out.mono ?_
    rintro e w1 ⟨rfl, rfl⟩
    go_wp2
    go_ret3
    exact ⟨_, _, rfl, isB_none _ _, rfl⟩
  · go_enter Try.func60, Try.ntmps60
    go_wp2_with fail
    refine HR.out.mono ?_
    rintro e w1 ⟨rfl, rfl⟩
    go_wp2
    go_ret3
    exact ⟨⟨b, off + m, none⟩, cap - m, by rw [show m + k - m = k by omega]; rfl, HI.out _, rfl⟩

/-- a slice of uint64 that lies in memory -/
def IsU (w : World) (ao : Option Addr) (len : Nat) (z : Nat → Int) : Prop :=
  len = 0 ∨ ∃ b off, ao = some ⟨b, off, none⟩ ∧ b < w.heap.size ∧ ∀ k, k < len → w.cell? ⟨b, off + k, none⟩ = some (.int .u64 (z k))
theorem IsU.below {w w' : World} {ao : Option Addr} {len : Nat} {z : Nat → Int} (h : IsU w ao len z) (hb : Below w.heap.size w w') : IsU w' ao len z := by
  rcases h with h | ⟨b, off, h1, h2, h3⟩
  · exact .inl h
  · exact .inr ⟨b, off, h1, Nat.lt_of_lt_of_le h2 hb.size, fun k hk => (hb.cell (by exact h2)).trans (h3 k hk)⟩
/-- is t one of them? -/
def knows (z : Nat → Int) (len : Nat) (t : Int) : Bool := decide (∃ k, k < len ∧ z k = t)

set_option maxHeartbeats 1000000 in
theorem has_none (ao : Option Addr) (cap : Nat) (t : Int) (w : World) : Calls Try.prog 67 #[.slice ao 0 cap, .int .u64 t] w fun e w' => e = .returned (.bool false) ∧ w' = w := by
  go_enter Try.func67, Try.ntmps67
  go_wp2
  refine wp_loop_rounds 1 ?_
  rw [rounds_succ]
  go_wp2
  go_ret
  exact ⟨rfl, rfl⟩

set_option maxHeartbeats 1000000 in
theorem has_row (b off len cap : Nat) (z : Nat → Int) (t : Int) (w : World) (hc : ∀ k, k < len → w.cell? ⟨b, off + k, none⟩ = some (.int .u64 (z k))) (hl : len ≤ 9223372036854775807) :
    Calls Try.prog 67 #[.slice (some ⟨b, off, none⟩) len cap, .int .u64 t] w fun e w' => e = .returned (.bool (knows z len t)) ∧ w' = w := by
  have HC := hide hc
  clear hc
  go_enter Try.func67, Try.ntmps67
  go_wp2
  go_loop [5] (fun i => ∃ k : Nat, k ≤ len ∧ i = .int .i64 k ∧ Hid (∀ j, j < k → z j ≠ t)) (fun i => len - (intOf i).toNat)
  case atStart => exact ⟨0, Nat.zero_le _, rfl, fun j hj => absurd hj (Nat.not_lt_zero _)⟩
  case round =>
    obtain ⟨k, hk, rfl, HN⟩ := hrel
    by_cases hlt : k < len
    · have q := HC.out k hlt
      by_cases he : z k = t
      · have HZ := hide (show knows z len t = true from decide_eq_true ⟨k, hlt, he⟩)
        have g : (z k == t) = true := by rw [he]; exact beq_self_eq_true _
        generalize z k = x at *
        go_wp2
        go_ret
        exact ⟨by rw [HZ.out]; rfl, rfl⟩
      · have HS := hide (show ∀ j, j < k + 1 → z j ≠ t from fun j hj => by
          by_cases e : j < k
          · exact HN.out j e
          · have e : j = k := by omega
            subst e; exact he)
        have g : (z k == t) = false := beq_eq_false_iff_ne.2 he
        generalize z k = x at q g he
        go_wp2
        go_round
        case rel => exact ⟨k + 1, by omega, by go_num, HS⟩
        case measure => simp [intOf]; omega
    · have HZ := hide (show knows z len t = false from decide_eq_false fun ⟨j, hj, e⟩ => HN.out j (by omega) e)
      go_wp2
      go_ret
      exact ⟨by rw [HZ.out]; rfl, rfl⟩

theorem has_any (ao : Option Addr) (len cap : Nat) (z : Nat → Int) (t : Int) (w : World) (hU : IsU w ao len z) (hl : len ≤ 9223372036854775807) :
    Calls Try.prog 67 #[.slice ao len cap, .int .u64 t] w fun e w' => e = .returned (.bool (knows z len t)) ∧ w' = w := by
  rcases hU with rfl | ⟨b, off, rfl, _, hc⟩
  · rw [show knows z 0 t = false from decide_eq_false fun ⟨k, hk, _⟩ => absurd hk (Nat.not_lt_zero _)]
    exact has_none ao cap t w
  · exact has_row b off len cap z t w hc hl

set_option maxHeartbeats 1000000 in
theorem index_none (ao : Option Addr) (cap : Nat) (t : Int) (w : World) : Calls Try.prog 74 #[.slice ao 0 cap, .int .u64 t] w fun e w' => e = .returned (.int .i64 (-1)) ∧ w' = w := by
  go_enter Try.func74, Try.ntmps74
  go_wp2
  refine wp_loop_rounds 1 ?_
  rw [rounds_succ]
  go_wp2
  go_ret
  exact ⟨rfl, rfl⟩

set_option maxHeartbeats 1000000 in
theorem index_row (b off len cap : Nat) (z : Nat → Int) (t : Int) (w : World) (hc : ∀ k, k < len → w.cell? ⟨b, off + k, none⟩ = some (.int .u64 (z k))) (hl : len ≤ 9223372036854775807) :
    Calls Try.prog 74 #[.slice (some ⟨b, off, none⟩) len cap, .int .u64 t] w fun e w' => ∃ i : Int, e = .returned (.int .i64 i) ∧ -1 ≤ i ∧ decide (0 ≤ i) = knows z len t ∧ w' = w := by
  have HC := hide hc
  clear hc
  go_enter Try.func74, Try.ntmps74
  go_wp2
  go_loop [8] (fun i => ∃ k : Nat, k ≤ len ∧ i = .int .i64 k ∧ Hid (∀ j, j < k → z j ≠ t)) (fun i => len - (intOf i).toNat)
  case atStart => exact ⟨0, Nat.zero_le _, rfl, fun j hj => absurd hj (Nat.not_lt_zero _)⟩
  case round =>
    obtain ⟨k, hk, rfl, HN⟩ := hrel
    by_cases hlt : k < len
    · have q := HC.out k hlt
      by_cases he : z k = t
      · have HZ := hide (show knows z len t = true from decide_eq_true ⟨k, hlt, he⟩)
        have g : (t == z k) = true := by rw [he]; exact beq_self_eq_true _
        generalize z k = x at *
        go_wp2
        go_ret
        exact ⟨k, rfl, by omega, by rw [HZ.out]; exact decide_eq_true (by omega), rfl⟩
      · have HS := hide (show ∀ j, j < k + 1 → z j ≠ t from fun j hj => by
          by_cases e : j < k
          · exact HN.out j e
          · have e : j = k := by omega
            subst e; exact he)
        have g : (t == z k) = false := beq_eq_false_iff_ne.2 (Ne.symm he)
        generalize z k = x at q g he
        go_wp2
        go_round
        case rel => exact ⟨k + 1, by omega, by go_num, HS⟩
        case measure => simp [intOf]; omega
    · have HZ := hide (show knows z len t = false from decide_eq_false fun ⟨j, hj, e⟩ => HN.out j (by omega) e)
      go_wp2
      go_ret
      exact ⟨-1, rfl, by omega, by rw [HZ.out]; rfl, rfl⟩

theorem index_any (ao : Option Addr) (len cap : Nat) (z : Nat → Int) (t : Int) (w : World) (hU : IsU w ao len z) (hl : len ≤ 9223372036854775807) :
    Calls Try.prog 74 #[.slice ao len cap, .int .u64 t] w fun e w' => ∃ i : Int, e = .returned (.int .i64 i) ∧ -1 ≤ i ∧ decide (0 ≤ i) = knows z len t ∧ w' = w := by
  rcases hU with rfl | ⟨b, off, rfl, _, hc⟩
  · rw [show knows z 0 t = false from decide_eq_false fun ⟨k, hk, _⟩ => absurd hk (Nat.not_lt_zero _)]
    exact (index_none ao cap t w).mono fun e w' h => ⟨-1, h.1, by omega, rfl, h.2⟩
  · exact index_row b off len cap z t w hc hl

set_option maxHeartbeats 1000000 in
theorem contains_any (ao : Option Addr) (len cap : Nat) (z : Nat → Int) (t : Int) (w : World) (hU : IsU w ao len z) (hl : len ≤ 9223372036854775807) :
    Calls Try.prog 61 #[.slice ao len cap, .int .u64 t] w fun e w' => e = .returned (.bool (knows z len t)) ∧ w' = w := by
  have HI := hide (index_any ao len cap z t w hU hl)
  clear hU
  go_enter Try.func61, Try.ntmps61
  go_wp2_with fail
  refine HI.out.mono ?_
  rintro e w1 ⟨i, rfl, hi, hk, rfl⟩
  have HK := hide hk
  clear hk HI
  go_wp2
  go_ret
  exact ⟨by rw [← HK.out]; rfl, rfl⟩
end Go.Proofs.Ytcbadmkgbaffpaa
