/- Some texts, in one. -/
import Derived.Test.YtgnkcmmpbohafaaRows
import Derived.WalkKit
import Derived.WalkSpells
import Derived.WalkLawsBesides
import Derived.Handy
import Derived.Lib.Mul64
import Derived.Laws.Bits64b
import Derived.BigQuiet
import Derived.Deep.QuietTactic
import Derived.Deep.RegionWith
/- Contracts of package amount's plain calls over this seat's translation. -/
namespace Go.Proofs.Ytgnkcmmpbohafaa
open Go.RowKit
set_option linter.unusedVariables false

theorem hide {p : Prop} (h : p) : Hid p := h

/-- all of the first n numbers are amounts -/
def nnB (z : Nat → Int) (n : Nat) : Bool := decide (∀ k, k < n → 0 ≤ z k)

set_option maxHeartbeats 400000 in
theorem may_row (b off len cap : Nat) (z : Nat → Int) (w : World) (hb : len ≤ 9223372036854775807)
    (hc : ∀ k, k < len → w.cell? ⟨b, off + k, none⟩ = some (.int .i64 (z k))) (hw : ∀ k, k < len → z k ≤ 9223372036854775807) :
    Calls Try.prog 106 #[.slice (some ⟨b, off, none⟩) len cap] w fun e w' => e = .returned (.bool (nnB z len)) ∧ w' = w := by
  go_enter Try.func106, Try.ntmps106
  go_wp2
  go_loop [7] (fun i => ∃ k : Nat, k ≤ len ∧ i = .int .i64 k ∧ Hid (∀ j, j < k → 0 ≤ z j)) (fun i => len - (intOf i).toNat)
  case atStart => exact ⟨0, Nat.zero_le _, rfl, fun j hj => absurd hj (Nat.not_lt_zero _)⟩
  case round =>
    obtain ⟨k, hk, rfl, HN⟩ := hrel
    by_cases hlt : k < len
    · have hck := hc k hlt
      have hwk := hw k hlt; have HC := hide hc; have HW := hide hw; clear hc hw
      by_cases h0 : z k < 0
      · have HF : Hid (nnB z len = false) := by
          refine decide_eq_false fun h => ?_
          have := h k hlt
          omega
        go_wp2
        go_ret
        exact ⟨by rw [HF.out]; rfl, rfl⟩
      · go_wp2
        go_round
        case rel =>
          refine ⟨k + 1, by omega, by go_num, fun j hj => ?_⟩
          by_cases hjk : j < k
          · exact HN.out j hjk
          · have : j = k := by omega
            subst this; omega
        case measure => simp [intOf]; omega
    · have HF : Hid (nnB z len = true) := by
        refine decide_eq_true fun j hj => HN.out j (by omega)
      clear hc hw
      go_wp2
      go_ret
      exact ⟨by rw [HF.out]; rfl, rfl⟩

theorem may1_yes (bl : Nat) (a : Int) (w : World) (hc : w.cell? ⟨bl, 0, none⟩ = some (.int .i64 a)) (h1 : 0 ≤ a) (h2 : a ≤ 9223372036854775807) :
    Calls Try.prog 106 #[.slice (some ⟨bl, 0, none⟩) 1 1] w fun e w' => e = .returned (.bool true) ∧ w' = w := by
  refine (may_row bl 0 1 1 (fun _ => a) _ (by omega) (fun k hk => ?_) (fun k _ => h2)).mono fun e w' h => ?_
  · match k, hk with
    | 0, _ => exact hc
  · rw [show nnB (fun _ => a) 1 = true from decide_eq_true fun k _ => h1] at h
    exact h
theorem may1_no (bl : Nat) (a : Int) (w : World) (hc : w.cell? ⟨bl, 0, none⟩ = some (.int .i64 a)) (h1 : a < 0) :
    Calls Try.prog 106 #[.slice (some ⟨bl, 0, none⟩) 1 1] w fun e w' => e = .returned (.bool false) ∧ w' = w := by
  refine (may_row bl 0 1 1 (fun _ => a) _ (by omega) (fun k hk => ?_) (fun k _ => by omega)).mono fun e w' h => ?_
  · match k, hk with
    | 0, _ => exact hc
  · rw [show nnB (fun _ => a) 1 = false from decide_eq_false fun h => by have e0 := h 0 (by omega); simp at e0; omega] at h
    exact h
def pick2 (a b : Int) : Nat → Int := fun k => if k = 0 then a else b
theorem may_two_yes (a b : Int) (w : World) (h1 : 0 ≤ a) (h2 : a ≤ 9223372036854775807) (h3 : 0 ≤ b) (h4 : b ≤ 9223372036854775807) :
    Calls Try.prog 106 #[.slice (some ⟨w.heap.size, 0, none⟩) 2 2] (w.alloc (.cells #[.int .i64 a, .int .i64 b] 3)) fun e w' => e = .returned (.bool true) ∧ w' = w.alloc (.cells #[.int .i64 a, .int .i64 b] 3) := by
  refine (may_row w.heap.size 0 2 2 (pick2 a b) _ (by omega) (fun k hk => ?_) (fun k _ => by unfold pick2; split <;> omega)).mono fun e w' h => ?_
  · match k, hk with
    | 0, _ => simp [pick2]
    | 1, _ => simp [pick2]
  · rw [show nnB (pick2 a b) 2 = true from decide_eq_true fun k _ => by unfold pick2; split <;> omega] at h
    exact h
theorem may_two_no (a b : Int) (w : World) (h1 : a < 0 ∨ b < 0) (h2 : a ≤ 9223372036854775807) (h4 : b ≤ 9223372036854775807) :
    Calls Try.prog 106 #[.slice (some ⟨w.heap.size, 0, none⟩) 2 2] (w.alloc (.cells #[.int .i64 a, .int .i64 b] 3)) fun e w' => e = .returned (.bool false) ∧ w' = w.alloc (.cells #[.int .i64 a, .int .i64 b] 3) := by
  refine (may_row w.heap.size 0 2 2 (pick2 a b) _ (by omega) (fun k hk => ?_) (fun k _ => by unfold pick2; split <;> omega)).mono fun e w' h => ?_
  · match k, hk with
    | 0, _ => simp [pick2]
    | 1, _ => simp [pick2]
  · rw [show nnB (pick2 a b) 2 = false from decide_eq_false fun h => by
      have e0 := h 0 (by omega); have e1 := h 1 (by omega)
      simp [pick2] at e0 e1; omega] at h
    exact h

/-- a sum of two amounts, as the call answers it, and its error -/
def addN (a b : Int) : Int := if a < 0 ∨ b < 0 then 0 else if a > 9223372036854775807 - b then 0 else a + b
def addE (a b : Int) : Int := if a < 0 ∨ b < 0 then 1 else if a > 9223372036854775807 - b then 20 else 0
theorem ret2 {k : IntKind} {a b c d : Int} (h1 : a = c) (h2 : b = d) : Ending.returned (.tuple #[.int k a, .int k b]) = .returned (.tuple #[.int k c, .int k d]) := by rw [h1, h2]

set_option maxHeartbeats 400000 in
theorem add_any (a b : Int) (w : World) (a1 : -9223372036854775808 ≤ a) (a2 : a ≤ 9223372036854775807) (b1 : -9223372036854775808 ≤ b) (b2 : b ≤ 9223372036854775807) :
    Calls Try.prog 95 #[.int .i64 a, .int .i64 b] w fun e w' => e = .returned (.tuple #[.int .i64 (addN a b), .int .i64 (addE a b)]) ∧ Below w.heap.size w w' := by
  have hB : ∀ o, Below w.heap.size w (w.alloc o) := fun o => (Below.refl _ _).alloc (Nat.le_refl _) o
  by_cases hn : a < 0 ∨ b < 0
  · have e1 : addN a b = 0 := by unfold addN; rw [if_pos hn]
    have e2 : addE a b = 1 := by unfold addE; rw [if_pos hn]
    rw [e1, e2]; clear e1 e2; go_enter Try.func95, Try.ntmps95
    go_wp2_with (go_at_call 106; refine (may_two_no a b w hn a2 b2).mono ?_; rintro e w' ⟨rfl, rfl⟩)
    go_ret2
    exact ⟨rfl, hB _⟩
  · have h1 : 0 ≤ a := by omega
    have h2 : 0 ≤ b := by omega
    by_cases ho : 9223372036854775807 - b < a
    · have e1 : addN a b = 0 := by unfold addN; rw [if_neg hn, if_pos ho]
      have e2 : addE a b = 20 := by unfold addE; rw [if_neg hn, if_pos ho]
      rw [e1, e2]; clear e1 e2 hn; go_enter Try.func95, Try.ntmps95
      go_wp2_with (go_at_call 106; refine (may_two_yes a b w h1 a2 h2 b2).mono ?_; rintro e w' ⟨rfl, rfl⟩)
      go_ret2
      exact ⟨rfl, hB _⟩
    · have e1 : addN a b = a + b := by unfold addN; rw [if_neg hn, if_neg ho]
      have e2 : addE a b = 0 := by unfold addE; rw [if_neg hn, if_neg ho]
      rw [e1, e2]; clear e1 e2 hn; go_enter Try.func95, Try.ntmps95
      go_wp2_with (go_at_call 106; refine (may_two_yes a b w h1 a2 h2 b2).mono ?_; rintro e w' ⟨rfl, rfl⟩)
      go_ret2
      exact ⟨rfl, hB _⟩

end Go.Proofs.Ytgnkcmmpbohafaa

/- Contracts of math/bits.Mul64, LeadingZeros64 and Div64, as package amount calls them, over this seat's translation. -/
namespace Go.Proofs.Ytgnkcmmpbohafaa
open Go.RowKit
set_option linter.unusedVariables false

namespace M64
theorem mask (a : Nat) (h : a < 18446744073709551616) : bits .and .u64 (a : Int) 4294967295 = ((a % 4294967296 : Nat) : Int) := by
  rw [← Nat.and_two_pow_sub_one_eq_mod a 32]; exact bits_and_u64_nat a 4294967295 h (by omega)
theorem dv (a : Nat) : (a : Int) / 4294967296 = ((a / 4294967296 : Nat) : Int) := by omega
theorem ml (a b : Nat) : (a : Int) * (b : Int) = ((a * b : Nat) : Int) := (Int.natCast_mul a b).symm
theorem ad (a b : Nat) : (a : Int) + (b : Int) = ((a + b : Nat) : Int) := (Int.natCast_add a b).symm
theorem wr (a : Nat) (h : a < 18446744073709551616) : IntKind.u64.wrap (a : Int) = (a : Int) := by rw [IntKind.wrap_u64]; omega
theorem wm (a : Nat) : IntKind.u64.wrap (a : Int) = ((a % 18446744073709551616 : Nat) : Int) := by rw [IntKind.wrap_u64]; omega
end M64

set_option maxRecDepth 100000 in
set_option maxHeartbeats 4000000 in
theorem lz44 (y : Int) (w : World) (h1 : 524288 ≤ y) (h2 : y < 1048576) :
    Calls Try.prog 119 #[.int .u64 y] w fun e w' => e = .returned (.int .i64 44) ∧ w' = w := by
  rcases (show y / 65536 = 8 ∨ y / 65536 = 9 ∨ y / 65536 = 10 ∨ y / 65536 = 11 ∨ y / 65536 = 12 ∨ y / 65536 = 13 ∨ y / 65536 = 14 ∨ y / 65536 = 15 from by omega) with h | h | h | h | h | h | h | h
  all_goals
    go_enter Try.func119, Try.ntmps119
    go_wp2
    go_ret
    exact ⟨by kernel_rfl, rfl⟩

set_option maxRecDepth 100000 in
set_option maxHeartbeats 4000000 in
theorem lz43 (y : Int) (w : World) (h1 : 1048576 ≤ y) (h2 : y < 2097152) :
    Calls Try.prog 119 #[.int .u64 y] w fun e w' => e = .returned (.int .i64 43) ∧ w' = w := by
  rcases (show y / 65536 = 16 ∨ y / 65536 = 17 ∨ y / 65536 = 18 ∨ y / 65536 = 19 ∨ y / 65536 = 20 ∨ y / 65536 = 21 ∨ y / 65536 = 22 ∨ y / 65536 = 23 ∨ y / 65536 = 24 ∨ y / 65536 = 25 ∨ y / 65536 = 26 ∨ y / 65536 = 27 ∨ y / 65536 = 28 ∨ y / 65536 = 29 ∨ y / 65536 = 30 ∨ y / 65536 = 31 from by omega) with h | h | h | h | h | h | h | h | h | h | h | h | h | h | h | h
  all_goals
    go_enter Try.func119, Try.ntmps119
    go_wp2
    go_ret
    exact ⟨by kernel_rfl, rfl⟩

set_option maxHeartbeats 1000000 in
theorem mul_any (x y : Nat) (w : World) (hx : x < 18446744073709551616) (hy : y < 18446744073709551616) :
    Calls Try.prog 116 #[.int .u64 x, .int .u64 y] w fun e w' => e = .returned (.tuple #[.int .u64 ((x * y / 18446744073709551616 : Nat) : Int), .int .u64 ((x * y % 18446744073709551616 : Nat) : Int)]) ∧ w' = w := by
  obtain ⟨g1, g2, g3, g4⟩ := Lib.mul64_hi x y hx hy; have k1 := Lib.half_mul_le (a := x / 4294967296) (b := y / 4294967296) (by omega) (by omega); have k2 := Lib.half_mul_le (a := x / 4294967296) (b := y % 4294967296) (by omega) (by omega); have k3 := Lib.half_mul_le (a := x % 4294967296) (b := y / 4294967296) (by omega) (by omega); go_enter Try.func116, Try.ntmps116
  go_wp2
  go_ret2
  refine ⟨ret2 (k := .u64) ?_ ?_, rfl⟩
  · show IntKind.u64.wrap _ = _
    simp only [M64.mask x hx, M64.mask y hy, M64.dv, M64.ml, M64.ad, M64.wr _ g1, M64.wr _ (show x / 4294967296 * (y % 4294967296) < 18446744073709551616 by omega), M64.wr _ g2, M64.mask _ g2, M64.wr _ (show x % 4294967296 * (y / 4294967296) < 18446744073709551616 by omega), M64.wr _ g3, M64.wr _ (show x / 4294967296 * (y / 4294967296) < 18446744073709551616 by omega)]; rw [M64.wr _ (by omega), M64.ad, M64.wr _ (by omega), g4]
  · show IntKind.u64.wrap _ = _
    rw [M64.ml, M64.wm]

set_option maxHeartbeats 1000000 in
theorem div_small (lo y : Nat) (w : World) (hlo : lo < 18446744073709551616) (hy : 0 < y) (hy2 : y < 18446744073709551616) :
    Calls Try.prog 117 #[.int .u64 0, .int .u64 lo, .int .u64 y] w fun e w' => e = .returned (.tuple #[.int .u64 ((lo / y : Nat) : Int), .int .u64 ((lo % y : Nat) : Int)]) ∧ Below w.heap.size w w' := by
  have g1 : ((y : Int) == 0) = false := by simp; omega
  go_enter Try.func117, Try.ntmps117
  go_wp2
  go_quiet (fail)
  go_wp2
  go_ret2
  refine ⟨ret2 (k := .u64) ?_ ?_, ?_⟩
  · show IntKind.u64.wrap _ = _
    rw [← Int.natCast_ediv, M64.wr _ (Nat.lt_of_le_of_lt (Nat.div_le_self _ _) hlo)]
  · show (lo : Int) % (y : Int) = _
    rw [Int.natCast_emod]
  · exact below_drewN (Below.refl _ _) _

end Go.Proofs.Ytgnkcmmpbohafaa

/- The arithmetic under math/bits.Div64 where the divisor has 20 or 21 bits: plain numbers, no program. -/
namespace Go.Proofs.Ytgnkcmmpbohafaa
open Go.RowKit
set_option linter.unusedVariables false

/-- a number of two words and one of one word, divided half a word at a time -/
theorem div_core (U V y1 : Nat) (hy : 0 < y1) (hU : U < y1 * 4294967296) (hV : V < 18446744073709551616) :
    (U * 18446744073709551616 + V) / (4294967296 * y1) = U / y1 * 4294967296 + (U % y1 * 4294967296 + V / 4294967296) / y1 ∧ (U % y1 * 4294967296 + V / 4294967296) / y1 < 4294967296 ∧ U / y1 < 4294967296 := by
  have hd := Nat.div_add_mod' U y1; have hm := Nat.mod_lt U hy; refine ⟨?_, ?_, Nat.div_lt_of_lt_mul hU⟩
  · rw [← Nat.div_div_eq_div_mul]
    have e4 : (U * 18446744073709551616 + V) / 4294967296 = U * 4294967296 + V / 4294967296 := by omega
    rw [e4]
    generalize U % y1 = R at *
    generalize U / y1 = Q at *
    have e5 : U * 4294967296 + V / 4294967296 = (R * 4294967296 + V / 4294967296) + (Q * 4294967296) * y1 := by
      rw [Nat.mul_right_comm Q 4294967296 y1]
      omega
    rw [e5, Nat.add_mul_div_right _ _ hy, Nat.add_comm]
  · refine Nat.div_lt_of_lt_mul ?_
    generalize U % y1 = R at *
    omega

theorem div_up (T y : Nat) (h : 0 < y) : T < T / y * y + y := by
  have hd := Nat.div_add_mod' T y; have hm := Nat.mod_lt T h
  omega

namespace D44
theorem and0 (y : Nat) (h : y < 1048576) : bits .and .u64 ((y : Int) * 17592186044416) 4294967295 = 0 := by
  have e : ((y : Int) * 17592186044416) = ((y * 17592186044416 : Nat) : Int) := by omega
  rw [e]; have h2 := bits_and_u64_nat (y * 17592186044416) 4294967295 (by omega) (by omega)
  have e2 : y * 17592186044416 &&& 4294967295 = (y * 17592186044416) % 4294967296 := Nat.and_two_pow_sub_one_eq_mod (y * 17592186044416) 32
  rw [e2] at h2
  have e3 : (y * 17592186044416) % 4294967296 = 0 := by omega
  rw [e3] at h2; exact h2
theorem orN (hi lo : Nat) (h : hi < 1048576) (hlo : lo < 18446744073709551616) : bits .or .u64 ((hi : Int) * 17592186044416) ((lo : Int) / 1048576) = ((hi * 17592186044416 + lo / 1048576 : Nat) : Int) := by
  have e : ((hi : Int) * 17592186044416) = ((hi * 17592186044416 : Nat) : Int) := by omega
  have e1 : ((lo : Int) / 1048576) = ((lo / 1048576 : Nat) : Int) := by omega
  rw [e, e1]; have h2 := bits_or_u64_nat (hi * 17592186044416) (lo / 1048576) (by omega) (by omega); have e2 := Nat.two_pow_add_eq_or_of_lt (i := 44) (b := lo / 1048576) (by omega) hi; rw [show (2 : Nat) ^ 44 * hi = hi * 17592186044416 by omega] at e2; rw [← e2] at h2; exact h2
theorem parts (hi lo y : Nat) : (hi * 18446744073709551616 + lo) / y = ((hi * 17592186044416 + lo / 1048576) * 18446744073709551616 + lo * 17592186044416 % 18446744073709551616) / (4294967296 * (y * 4096)) := by
  have e1 : (hi * 18446744073709551616 + lo) / y = (hi * 18446744073709551616 + lo) * 17592186044416 / (y * 17592186044416) := (Nat.mul_div_mul_right _ _ (by omega)).symm
  have e2 : (hi * 18446744073709551616 + lo) * 17592186044416 = (hi * 17592186044416 + lo / 1048576) * 18446744073709551616 + lo * 17592186044416 % 18446744073709551616 := by clear e1; omega
  have e3 : y * 17592186044416 = 4294967296 * (y * 4096) := by clear e1 e2; omega
  rw [e1, e2, e3]
/-- the numbers that the call meets -/
theorem nums (hi lo y : Nat) (hlo : lo < 18446744073709551616) (h1 : 524288 ≤ y) (h2 : y < 1048576) (h3 : hi < y) :
    ∃ U V Z Q R S : Nat, U = hi * 17592186044416 + lo / 1048576 ∧ V = lo * 17592186044416 % 18446744073709551616 ∧ Q = U / (y * 4096) ∧ Z = Q * y ∧ U = Z * 4096 + R ∧ R < y * 4096 ∧ Q < 4294967296 ∧
      S = (R * 4294967296 + V / 4294967296) / (y * 4096) ∧ S < 4294967296 ∧ (hi * 18446744073709551616 + lo) / y = Q * 4294967296 + S ∧ U < 18446744073709551616 ∧ V < 18446744073709551616 := by
  have hp := parts hi lo y
  have hV : lo * 17592186044416 % 18446744073709551616 < 18446744073709551616 := Nat.mod_lt _ (by omega)
  obtain ⟨U, hU⟩ : ∃ U, U = hi * 17592186044416 + lo / 1048576 := ⟨_, rfl⟩; obtain ⟨V, hVV⟩ : ∃ V, V = lo * 17592186044416 % 18446744073709551616 := ⟨_, rfl⟩; rw [← hU, ← hVV] at hp; rw [← hVV] at hV
  have hy : 0 < y * 4096 := by omega
  have hb : U < (y * 4096) * 4294967296 := by omega
  obtain ⟨c1, c2, c3⟩ := div_core U V (y * 4096) hy hb hV; refine ⟨U, V, U / (y * 4096) * y, U / (y * 4096), U % (y * 4096), _, hU, hVV, rfl, rfl, ?_, Nat.mod_lt _ hy, c3, rfl, c2, hp.trans c1, by omega, hV⟩; have hd := Nat.div_add_mod' U (y * 4096); rw [Nat.mul_assoc]; exact hd.symm
theorem maskV (V : Nat) (h : V < 18446744073709551616) : bits .and .u64 (V : Int) 4294967295 = ((V % 4294967296 : Nat) : Int) := by
  rw [← Nat.and_two_pow_sub_one_eq_mod V 32]; exact bits_and_u64_nat V 4294967295 h (by omega)
theorem tEq (U V1 Z R y Q : Nat) (hU : U = Z * 4096 + R) (hZ : Z = Q * y) (hR : R < 4294967296) (hV : V1 < 4294967296) :
    IntKind.u64.wrap (IntKind.u64.wrap (IntKind.u64.wrap ((U : Int) * 4294967296) + (V1 : Int)) - IntKind.u64.wrap ((Q : Int) * ((y : Int) * 17592186044416))) = ((R * 4294967296 + V1 : Nat) : Int) := by
  have e : (Q : Int) * ((y : Int) * 17592186044416) = (Z : Int) * 17592186044416 := by rw [hZ, ← Int.mul_assoc, ← Int.natCast_mul]
  rw [e]; clear e hZ; simp only [IntKind.wrap_u64]
  omega
/-- all that the walk asks -/
theorem all (hi lo y : Nat) (hlo : lo < 18446744073709551616) (h1 : 524288 ≤ y) (h2 : y < 1048576) (h3 : hi < y) :
    ∃ U V V0 V1 Y Q P R T S P2 R2 : Int, (((hi * 18446744073709551616 + lo) / y : Nat) : Int) = Q * 4294967296 + S ∧
    (0 ≤ U ∧ 0 < Y ∧ 0 ≤ Q ∧ Q < 4294967296 ∧ 0 ≤ P ∧ P ≤ U ∧ U ≤ 18446744073709551615 ∧ 0 ≤ R ∧ R < 4294967296 ∧ 0 ≤ V1 ∧ V1 < 4294967296) ∧
    (0 ≤ T ∧ T ≤ 18446744073709551615 ∧ 0 ≤ S ∧ S < 4294967296 ∧ 0 ≤ P2 ∧ P2 ≤ T ∧ 0 ≤ R2 ∧ R2 < 4294967296 ∧ 0 ≤ V0 ∧ V0 < 4294967296 ∧ 0 ≤ V ∧ V ≤ 18446744073709551615) ∧
    (bits .and .u64 ((y : Int) * 17592186044416) 4294967295 = 0 ∧ bits .or .u64 ((hi : Int) * 17592186044416) ((lo : Int) / 1048576) = U ∧ IntKind.u64.wrap ((lo : Int) * 17592186044416) = V ∧
    (y : Int) * 17592186044416 / 4294967296 = Y ∧ U / Y = Q ∧ Q * Y = P ∧ U - P = R ∧ V / 4294967296 = V1 ∧ bits .and .u64 V 4294967295 = V0 ∧
    IntKind.u64.wrap (IntKind.u64.wrap (IntKind.u64.wrap (U * 4294967296) + V1) - IntKind.u64.wrap (Q * ((y : Int) * 17592186044416))) = T ∧ T / Y = S ∧ S * Y = P2 ∧ T - P2 = R2) := by
  obtain ⟨U, V, Z, Q, R, S, hU, hV, hQ, hZ, hUR, hR, hQ2, hS, hS2, hfin, hU2, hV2⟩ := nums hi lo y hlo h1 h2 h3
  have hV1 : V / 4294967296 < 4294967296 := by clear hU hV hQ hZ hUR hS hfin; omega
  have hRR : R < 4294967296 := by clear hU hV hQ hZ hUR hS hfin; omega
  have t1 := tEq U (V / 4294967296) Z R y Q hUR hZ hRR hV1; have m1 := maskV V hV2; have a0 := and0 y h2; have o1 := orN hi lo (by clear hU hV hQ hZ hUR hS hfin; omega) hlo; rw [← hU] at o1
  have w1 : IntKind.u64.wrap ((lo : Int) * 17592186044416) = (V : Int) := by rw [IntKind.wrap_u64, hV]; clear hU hV hQ hZ hUR hS hfin t1 m1 a0 o1; omega
  have q1 : (U : Int) / ((y * 4096 : Nat) : Int) = (Q : Int) := by rw [← Int.natCast_ediv, ← hQ]
  have q2 : ((R * 4294967296 + V / 4294967296 : Nat) : Int) / ((y * 4096 : Nat) : Int) = (S : Int) := by rw [← Int.natCast_ediv, ← hS]
  have p1 : (Q : Int) * ((y * 4096 : Nat) : Int) = ((Z * 4096 : Nat) : Int) := by rw [hZ, ← Int.natCast_mul, Nat.mul_assoc]
  have hT2 : S * (y * 4096) ≤ R * 4294967296 + V / 4294967296 := by rw [hS]; exact Nat.div_mul_le_self _ _
  have hT3 : R * 4294967296 + V / 4294967296 < S * (y * 4096) + y * 4096 := by
    have hd := div_up (R * 4294967296 + V / 4294967296) (y * 4096) (by clear hU hV hQ hZ hUR hS hfin; omega); rw [← hS] at hd; exact hd
  obtain ⟨P2, hP2⟩ : ∃ P2, P2 = S * (y * 4096) := ⟨_, rfl⟩
  have p2 : (S : Int) * ((y * 4096 : Nat) : Int) = (P2 : Int) := by rw [hP2, ← Int.natCast_mul]
  rw [← hP2] at hT2 hT3
  have hf : (((hi * 18446744073709551616 + lo) / y : Nat) : Int) = (Q : Int) * 4294967296 + (S : Int) := by rw [hfin, Int.natCast_add, Int.natCast_mul]; rfl
  have y1 : (y : Int) * 17592186044416 / 4294967296 = ((y * 4096 : Nat) : Int) := by clear hU hV hQ hZ hUR hS hfin t1 m1 a0 o1 w1 q1 q2 p1 p2 hf hT2 hT3 hP2; omega
  have v1 : (V : Int) / 4294967296 = ((V / 4294967296 : Nat) : Int) := by clear hU hV hQ hZ hUR hS hfin t1 m1 a0 o1 w1 q1 q2 p1 p2 hf hT2 hT3 hP2 y1; omega
  refine ⟨U, V, ((V % 4294967296 : Nat) : Int), ((V / 4294967296 : Nat) : Int), ((y * 4096 : Nat) : Int), Q, ((Z * 4096 : Nat) : Int), R, ((R * 4294967296 + V / 4294967296 : Nat) : Int), S, P2, ((R * 4294967296 + V / 4294967296 - P2 : Nat) : Int), hf, ?_, ?_, a0, o1, w1, y1, q1, p1, ?_, v1, m1, t1, q2, p2, ?_⟩
  all_goals clear hf a0 o1 w1 y1 q1 p1 v1 m1 t1 q2 p2 hfin hS hQ hZ hU hV hP2
  · omega
  · omega
  · omega
  · omega
end D44

namespace D43
theorem and0 (y : Nat) (h : y < 2097152) : bits .and .u64 ((y : Int) * 8796093022208) 4294967295 = 0 := by
  have e : ((y : Int) * 8796093022208) = ((y * 8796093022208 : Nat) : Int) := by omega
  rw [e]; have h2 := bits_and_u64_nat (y * 8796093022208) 4294967295 (by omega) (by omega)
  have e2 : y * 8796093022208 &&& 4294967295 = (y * 8796093022208) % 4294967296 := Nat.and_two_pow_sub_one_eq_mod (y * 8796093022208) 32
  rw [e2] at h2
  have e3 : (y * 8796093022208) % 4294967296 = 0 := by omega
  rw [e3] at h2; exact h2
theorem orN (hi lo : Nat) (h : hi < 2097152) (hlo : lo < 18446744073709551616) : bits .or .u64 ((hi : Int) * 8796093022208) ((lo : Int) / 2097152) = ((hi * 8796093022208 + lo / 2097152 : Nat) : Int) := by
  have e : ((hi : Int) * 8796093022208) = ((hi * 8796093022208 : Nat) : Int) := by omega
  have e1 : ((lo : Int) / 2097152) = ((lo / 2097152 : Nat) : Int) := by omega
  rw [e, e1]; have h2 := bits_or_u64_nat (hi * 8796093022208) (lo / 2097152) (by omega) (by omega); have e2 := Nat.two_pow_add_eq_or_of_lt (i := 43) (b := lo / 2097152) (by omega) hi; rw [show (2 : Nat) ^ 43 * hi = hi * 8796093022208 by omega] at e2; rw [← e2] at h2; exact h2
theorem parts (hi lo y : Nat) : (hi * 18446744073709551616 + lo) / y = ((hi * 8796093022208 + lo / 2097152) * 18446744073709551616 + lo * 8796093022208 % 18446744073709551616) / (4294967296 * (y * 2048)) := by
  have e1 : (hi * 18446744073709551616 + lo) / y = (hi * 18446744073709551616 + lo) * 8796093022208 / (y * 8796093022208) := (Nat.mul_div_mul_right _ _ (by omega)).symm
  have e2 : (hi * 18446744073709551616 + lo) * 8796093022208 = (hi * 8796093022208 + lo / 2097152) * 18446744073709551616 + lo * 8796093022208 % 18446744073709551616 := by clear e1; omega
  have e3 : y * 8796093022208 = 4294967296 * (y * 2048) := by clear e1 e2; omega
  rw [e1, e2, e3]
/-- the numbers that the call meets -/
theorem nums (hi lo y : Nat) (hlo : lo < 18446744073709551616) (h1 : 1048576 ≤ y) (h2 : y < 2097152) (h3 : hi < y) :
    ∃ U V Z Q R S : Nat, U = hi * 8796093022208 + lo / 2097152 ∧ V = lo * 8796093022208 % 18446744073709551616 ∧ Q = U / (y * 2048) ∧ Z = Q * y ∧ U = Z * 2048 + R ∧ R < y * 2048 ∧ Q < 4294967296 ∧
      S = (R * 4294967296 + V / 4294967296) / (y * 2048) ∧ S < 4294967296 ∧ (hi * 18446744073709551616 + lo) / y = Q * 4294967296 + S ∧ U < 18446744073709551616 ∧ V < 18446744073709551616 := by
  have hp := parts hi lo y
  have hV : lo * 8796093022208 % 18446744073709551616 < 18446744073709551616 := Nat.mod_lt _ (by omega)
  obtain ⟨U, hU⟩ : ∃ U, U = hi * 8796093022208 + lo / 2097152 := ⟨_, rfl⟩; obtain ⟨V, hVV⟩ : ∃ V, V = lo * 8796093022208 % 18446744073709551616 := ⟨_, rfl⟩; rw [← hU, ← hVV] at hp; rw [← hVV] at hV
  have hy : 0 < y * 2048 := by omega
  have hb : U < (y * 2048) * 4294967296 := by omega
  obtain ⟨c1, c2, c3⟩ := div_core U V (y * 2048) hy hb hV; refine ⟨U, V, U / (y * 2048) * y, U / (y * 2048), U % (y * 2048), _, hU, hVV, rfl, rfl, ?_, Nat.mod_lt _ hy, c3, rfl, c2, hp.trans c1, by omega, hV⟩; have hd := Nat.div_add_mod' U (y * 2048); rw [Nat.mul_assoc]; exact hd.symm
theorem maskV (V : Nat) (h : V < 18446744073709551616) : bits .and .u64 (V : Int) 4294967295 = ((V % 4294967296 : Nat) : Int) := by
  rw [← Nat.and_two_pow_sub_one_eq_mod V 32]; exact bits_and_u64_nat V 4294967295 h (by omega)
theorem tEq (U V1 Z R y Q : Nat) (hU : U = Z * 2048 + R) (hZ : Z = Q * y) (hR : R < 4294967296) (hV : V1 < 4294967296) :
    IntKind.u64.wrap (IntKind.u64.wrap (IntKind.u64.wrap ((U : Int) * 4294967296) + (V1 : Int)) - IntKind.u64.wrap ((Q : Int) * ((y : Int) * 8796093022208))) = ((R * 4294967296 + V1 : Nat) : Int) := by
  have e : (Q : Int) * ((y : Int) * 8796093022208) = (Z : Int) * 8796093022208 := by rw [hZ, ← Int.mul_assoc, ← Int.natCast_mul]
  rw [e]; clear e hZ; simp only [IntKind.wrap_u64]
  omega
/-- all that the walk asks -/
theorem all (hi lo y : Nat) (hlo : lo < 18446744073709551616) (h1 : 1048576 ≤ y) (h2 : y < 2097152) (h3 : hi < y) :
    ∃ U V V0 V1 Y Q P R T S P2 R2 : Int, (((hi * 18446744073709551616 + lo) / y : Nat) : Int) = Q * 4294967296 + S ∧
    (0 ≤ U ∧ 0 < Y ∧ 0 ≤ Q ∧ Q < 4294967296 ∧ 0 ≤ P ∧ P ≤ U ∧ U ≤ 18446744073709551615 ∧ 0 ≤ R ∧ R < 4294967296 ∧ 0 ≤ V1 ∧ V1 < 4294967296) ∧
    (0 ≤ T ∧ T ≤ 18446744073709551615 ∧ 0 ≤ S ∧ S < 4294967296 ∧ 0 ≤ P2 ∧ P2 ≤ T ∧ 0 ≤ R2 ∧ R2 < 4294967296 ∧ 0 ≤ V0 ∧ V0 < 4294967296 ∧ 0 ≤ V ∧ V ≤ 18446744073709551615) ∧
    (bits .and .u64 ((y : Int) * 8796093022208) 4294967295 = 0 ∧ bits .or .u64 ((hi : Int) * 8796093022208) ((lo : Int) / 2097152) = U ∧ IntKind.u64.wrap ((lo : Int) * 8796093022208) = V ∧
    (y : Int) * 8796093022208 / 4294967296 = Y ∧ U / Y = Q ∧ Q * Y = P ∧ U - P = R ∧ V / 4294967296 = V1 ∧ bits .and .u64 V 4294967295 = V0 ∧
    IntKind.u64.wrap (IntKind.u64.wrap (IntKind.u64.wrap (U * 4294967296) + V1) - IntKind.u64.wrap (Q * ((y : Int) * 8796093022208))) = T ∧ T / Y = S ∧ S * Y = P2 ∧ T - P2 = R2) := by
  obtain ⟨U, V, Z, Q, R, S, hU, hV, hQ, hZ, hUR, hR, hQ2, hS, hS2, hfin, hU2, hV2⟩ := nums hi lo y hlo h1 h2 h3
  have hV1 : V / 4294967296 < 4294967296 := by clear hU hV hQ hZ hUR hS hfin; omega
  have hRR : R < 4294967296 := by clear hU hV hQ hZ hUR hS hfin; omega
  have t1 := tEq U (V / 4294967296) Z R y Q hUR hZ hRR hV1; have m1 := maskV V hV2; have a0 := and0 y h2; have o1 := orN hi lo (by clear hU hV hQ hZ hUR hS hfin; omega) hlo; rw [← hU] at o1
  have w1 : IntKind.u64.wrap ((lo : Int) * 8796093022208) = (V : Int) := by rw [IntKind.wrap_u64, hV]; clear hU hV hQ hZ hUR hS hfin t1 m1 a0 o1; omega
  have q1 : (U : Int) / ((y * 2048 : Nat) : Int) = (Q : Int) := by rw [← Int.natCast_ediv, ← hQ]
  have q2 : ((R * 4294967296 + V / 4294967296 : Nat) : Int) / ((y * 2048 : Nat) : Int) = (S : Int) := by rw [← Int.natCast_ediv, ← hS]
  have p1 : (Q : Int) * ((y * 2048 : Nat) : Int) = ((Z * 2048 : Nat) : Int) := by rw [hZ, ← Int.natCast_mul, Nat.mul_assoc]
  have hT2 : S * (y * 2048) ≤ R * 4294967296 + V / 4294967296 := by rw [hS]; exact Nat.div_mul_le_self _ _
  have hT3 : R * 4294967296 + V / 4294967296 < S * (y * 2048) + y * 2048 := by
    have hd := div_up (R * 4294967296 + V / 4294967296) (y * 2048) (by clear hU hV hQ hZ hUR hS hfin; omega); rw [← hS] at hd; exact hd
  obtain ⟨P2, hP2⟩ : ∃ P2, P2 = S * (y * 2048) := ⟨_, rfl⟩
  have p2 : (S : Int) * ((y * 2048 : Nat) : Int) = (P2 : Int) := by rw [hP2, ← Int.natCast_mul]
  rw [← hP2] at hT2 hT3
  have hf : (((hi * 18446744073709551616 + lo) / y : Nat) : Int) = (Q : Int) * 4294967296 + (S : Int) := by rw [hfin, Int.natCast_add, Int.natCast_mul]; rfl
  have y1 : (y : Int) * 8796093022208 / 4294967296 = ((y * 2048 : Nat) : Int) := by clear hU hV hQ hZ hUR hS hfin t1 m1 a0 o1 w1 q1 q2 p1 p2 hf hT2 hT3 hP2; omega
  have v1 : (V : Int) / 4294967296 = ((V / 4294967296 : Nat) : Int) := by clear hU hV hQ hZ hUR hS hfin t1 m1 a0 o1 w1 q1 q2 p1 p2 hf hT2 hT3 hP2 y1; omega
  refine ⟨U, V, ((V % 4294967296 : Nat) : Int), ((V / 4294967296 : Nat) : Int), ((y * 2048 : Nat) : Int), Q, ((Z * 2048 : Nat) : Int), R, ((R * 4294967296 + V / 4294967296 : Nat) : Int), S, P2, ((R * 4294967296 + V / 4294967296 - P2 : Nat) : Int), hf, ?_, ?_, a0, o1, w1, y1, q1, p1, ?_, v1, m1, t1, q2, p2, ?_⟩
  all_goals clear hf a0 o1 w1 y1 q1 p1 v1 m1 t1 q2 p2 hfin hS hQ hZ hU hV hP2
  · omega
  · omega
  · omega
  · omega
end D43
end Go.Proofs.Ytgnkcmmpbohafaa

/- The contract of math/bits.Div64 at divisors of 20 or 21 bits, over this seat's translation. -/
namespace Go.Proofs.Ytgnkcmmpbohafaa
open Go.RowKit
set_option linter.unusedVariables false

set_option maxRecDepth 100000 in
set_option maxHeartbeats 2000000 in
theorem div_walk44 (hi lo y U V V0 V1 Y Q P R T S P2 R2 : Int) (w : World)
    (b1 : 0 < hi) (b2 : hi < y) (b3 : 524288 ≤ y) (b4 : y < 1048576) (b5 : 0 ≤ lo) (b6 : lo ≤ 18446744073709551615)
    (k1 : 0 ≤ U) (k2 : 0 < Y) (k4 : 0 ≤ Q) (k5 : Q < 4294967296) (k6 : 0 ≤ P) (k7 : P ≤ U) (k7' : U ≤ 18446744073709551615) (k8 : 0 ≤ R) (k9 : R < 4294967296) (k10 : 0 ≤ V1) (k11 : V1 < 4294967296)
    (k12 : 0 ≤ T) (k13 : T ≤ 18446744073709551615) (k14 : 0 ≤ S) (k15 : S < 4294967296) (k16 : 0 ≤ P2) (k17 : P2 ≤ T) (k18 : 0 ≤ R2) (k19 : R2 < 4294967296) (k20 : 0 ≤ V0) (k21 : V0 < 4294967296) (k22 : 0 ≤ V) (k23 : V ≤ 18446744073709551615)
    (g1 : (y == 0) = false) (g2 : (hi == 0) = false) (g3 : decide (4294967296 ≤ Q) = false) (g4 : decide (4294967296 ≤ S) = false)
    (r1 : bits .and .u64 (y * 17592186044416) 4294967295 = 0) (r2 : bits .or .u64 (hi * 17592186044416) (lo / 1048576) = U) (r3 : IntKind.u64.wrap (lo * 17592186044416) = V)
    (r4 : y * 17592186044416 / 4294967296 = Y) (r5 : U / Y = Q) (r6 : Q * Y = P) (r7 : U - P = R) (rv : V / 4294967296 = V1) (rw0 : bits .and .u64 V 4294967295 = V0)
    (r8 : IntKind.u64.wrap (IntKind.u64.wrap (IntKind.u64.wrap (U * 4294967296) + V1) - IntKind.u64.wrap (Q * (y * 17592186044416))) = T) (r9 : T / Y = S) (r10 : S * Y = P2) (r11 : T - P2 = R2) :
    Calls Try.prog 117 #[.int .u64 hi, .int .u64 lo, .int .u64 y] w fun e w' => ∃ r : Int, e = .returned (.tuple #[.int .u64 (Q * 4294967296 + S), .int .u64 r]) ∧ w' = w := by
  go_enter Try.func117, Try.ntmps117
  go_wp2_with (go_at_call 119; refine (lz44 _ _ (by omega) (by omega)).mono ?_; rintro e w' ⟨rfl, rfl⟩)
  refine wp_loop_rounds 1 ?_; rw [rounds_succ]
  go_wp2
  refine wp_loop_rounds 1 ?_; rw [rounds_succ]
  go_wp2
  go_ret2
  exact ⟨_, ret2 (k := .u64) rfl rfl, rfl⟩

/-- the quotient; the rest is some number -/
theorem div44 (hi lo y : Nat) (w : World) (hlo : lo < 18446744073709551616) (h1 : 524288 ≤ y) (h2 : y < 1048576) (h3 : hi < y) (h4 : 0 < hi) :
    Calls Try.prog 117 #[.int .u64 hi, .int .u64 lo, .int .u64 y] w fun e w' => ∃ r : Int, e = .returned (.tuple #[.int .u64 (((hi * 18446744073709551616 + lo) / y : Nat) : Int), .int .u64 r]) ∧ w' = w := by
  obtain ⟨U, V, V0, V1, Y, Q, P, R, T, S, P2, R2, hf, ⟨k1, k2, k4, k5, k6, k7, k7', k8, k9, k10, k11⟩, ⟨k12, k13, k14, k15, k16, k17, k18, k19, k20, k21, k22, k23⟩, r1, r2, r3, r4, r5, r6, r7, rv, rw0, r8, r9, r10, r11⟩ := D44.all hi lo y hlo h1 h2 h3; rw [hf]
  have g1 : ((y : Int) == 0) = false := by simp; omega
  have g2 : ((hi : Int) == 0) = false := by simp; omega
  have g3 : decide (4294967296 ≤ Q) = false := by simp; exact k5
  have g4 : decide (4294967296 ≤ S) = false := by simp; exact k15
  have b1 : 0 < (hi : Int) := by omega
  have b2 : (hi : Int) < (y : Int) := by omega
  have b3 : 524288 ≤ (y : Int) := by omega
  have b4 : (y : Int) < 1048576 := by omega
  have b5 : 0 ≤ (lo : Int) := by omega
  have b6 : (lo : Int) ≤ 18446744073709551615 := by omega
  exact div_walk44 hi lo y U V V0 V1 Y Q P R T S P2 R2 w b1 b2 b3 b4 b5 b6 k1 k2 k4 k5 k6 k7 k7' k8 k9 k10 k11 k12 k13 k14 k15 k16 k17 k18 k19 k20 k21 k22 k23 g1 g2 g3 g4 r1 r2 r3 r4 r5 r6 r7 rv rw0 r8 r9 r10 r11

set_option maxRecDepth 100000 in
set_option maxHeartbeats 2000000 in
theorem div_walk43 (hi lo y U V V0 V1 Y Q P R T S P2 R2 : Int) (w : World)
    (b1 : 0 < hi) (b2 : hi < y) (b3 : 1048576 ≤ y) (b4 : y < 2097152) (b5 : 0 ≤ lo) (b6 : lo ≤ 18446744073709551615)
    (k1 : 0 ≤ U) (k2 : 0 < Y) (k4 : 0 ≤ Q) (k5 : Q < 4294967296) (k6 : 0 ≤ P) (k7 : P ≤ U) (k7' : U ≤ 18446744073709551615) (k8 : 0 ≤ R) (k9 : R < 4294967296) (k10 : 0 ≤ V1) (k11 : V1 < 4294967296)
    (k12 : 0 ≤ T) (k13 : T ≤ 18446744073709551615) (k14 : 0 ≤ S) (k15 : S < 4294967296) (k16 : 0 ≤ P2) (k17 : P2 ≤ T) (k18 : 0 ≤ R2) (k19 : R2 < 4294967296) (k20 : 0 ≤ V0) (k21 : V0 < 4294967296) (k22 : 0 ≤ V) (k23 : V ≤ 18446744073709551615)
    (g1 : (y == 0) = false) (g2 : (hi == 0) = false) (g3 : decide (4294967296 ≤ Q) = false) (g4 : decide (4294967296 ≤ S) = false)
    (r1 : bits .and .u64 (y * 8796093022208) 4294967295 = 0) (r2 : bits .or .u64 (hi * 8796093022208) (lo / 2097152) = U) (r3 : IntKind.u64.wrap (lo * 8796093022208) = V)
    (r4 : y * 8796093022208 / 4294967296 = Y) (r5 : U / Y = Q) (r6 : Q * Y = P) (r7 : U - P = R) (rv : V / 4294967296 = V1) (rw0 : bits .and .u64 V 4294967295 = V0)
    (r8 : IntKind.u64.wrap (IntKind.u64.wrap (IntKind.u64.wrap (U * 4294967296) + V1) - IntKind.u64.wrap (Q * (y * 8796093022208))) = T) (r9 : T / Y = S) (r10 : S * Y = P2) (r11 : T - P2 = R2) :
    Calls Try.prog 117 #[.int .u64 hi, .int .u64 lo, .int .u64 y] w fun e w' => ∃ r : Int, e = .returned (.tuple #[.int .u64 (Q * 4294967296 + S), .int .u64 r]) ∧ w' = w := by
  go_enter Try.func117, Try.ntmps117
  go_wp2_with (go_at_call 119; refine (lz43 _ _ (by omega) (by omega)).mono ?_; rintro e w' ⟨rfl, rfl⟩)
  refine wp_loop_rounds 1 ?_; rw [rounds_succ]
  go_wp2
  refine wp_loop_rounds 1 ?_; rw [rounds_succ]
  go_wp2
  go_ret2
  exact ⟨_, ret2 (k := .u64) rfl rfl, rfl⟩

/-- the quotient; the rest is some number -/
theorem div43 (hi lo y : Nat) (w : World) (hlo : lo < 18446744073709551616) (h1 : 1048576 ≤ y) (h2 : y < 2097152) (h3 : hi < y) (h4 : 0 < hi) :
    Calls Try.prog 117 #[.int .u64 hi, .int .u64 lo, .int .u64 y] w fun e w' => ∃ r : Int, e = .returned (.tuple #[.int .u64 (((hi * 18446744073709551616 + lo) / y : Nat) : Int), .int .u64 r]) ∧ w' = w := by
  obtain ⟨U, V, V0, V1, Y, Q, P, R, T, S, P2, R2, hf, ⟨k1, k2, k4, k5, k6, k7, k7', k8, k9, k10, k11⟩, ⟨k12, k13, k14, k15, k16, k17, k18, k19, k20, k21, k22, k23⟩, r1, r2, r3, r4, r5, r6, r7, rv, rw0, r8, r9, r10, r11⟩ := D43.all hi lo y hlo h1 h2 h3; rw [hf]
  have g1 : ((y : Int) == 0) = false := by simp; omega
  have g2 : ((hi : Int) == 0) = false := by simp; omega
  have g3 : decide (4294967296 ≤ Q) = false := by simp; exact k5
  have g4 : decide (4294967296 ≤ S) = false := by simp; exact k15
  have b1 : 0 < (hi : Int) := by omega
  have b2 : (hi : Int) < (y : Int) := by omega
  have b3 : 1048576 ≤ (y : Int) := by omega
  have b4 : (y : Int) < 2097152 := by omega
  have b5 : 0 ≤ (lo : Int) := by omega
  have b6 : (lo : Int) ≤ 18446744073709551615 := by omega
  exact div_walk43 hi lo y U V V0 V1 Y Q P R T S P2 R2 w b1 b2 b3 b4 b5 b6 k1 k2 k4 k5 k6 k7 k7' k8 k9 k10 k11 k12 k13 k14 k15 k16 k17 k18 k19 k20 k21 k22 k23 g1 g2 g3 g4 r1 r2 r3 r4 r5 r6 r7 rv rw0 r8 r9 r10 r11
end Go.Proofs.Ytgnkcmmpbohafaa

/- Contracts of amount.rated and amount.unrated over this seat's translation. -/
namespace Go.Proofs.Ytgnkcmmpbohafaa
open Go.RowKit
set_option linter.unusedVariables false

/-- Div64 by a million to two millions, whatever the first word below the divisor -/
theorem div_any (hi lo y : Nat) (w : World) (hlo : lo < 18446744073709551616) (h1 : 1000000 ≤ y) (h2 : y ≤ 2000000) (h3 : hi < y) :
    Calls Try.prog 117 #[.int .u64 hi, .int .u64 lo, .int .u64 y] w fun e w' => ∃ r : Int, e = .returned (.tuple #[.int .u64 (((hi * 18446744073709551616 + lo) / y : Nat) : Int), .int .u64 r]) ∧ Below w.heap.size w w' := by
  by_cases h0 : hi = 0
  · subst h0
    refine (div_small lo y w hlo (by omega) (by omega)).mono fun e w' h => ?_; rw [show 0 * 18446744073709551616 + lo = lo by omega]; exact ⟨_, h.1, h.2⟩
  · by_cases h5 : y < 1048576
    · refine (div44 hi lo y w hlo (by omega) h5 h3 (by omega)).mono fun e w' h => ?_
      obtain ⟨r, he, hw⟩ := h; rw [hw]; exact ⟨r, he, Below.refl _ _⟩
    · refine (div43 hi lo y w hlo (by omega) (by omega) h3 (by omega)).mono fun e w' h => ?_
      obtain ⟨r, he, hw⟩ := h; rw [hw]; exact ⟨r, he, Below.refl _ _⟩

theorem rated_le (n m : Nat) (hm : m ≤ 1000000) : n * m / 1000000 ≤ n := by
  have := Nat.mul_le_mul_left n hm
  omega
theorem rated_hi (n m : Nat) (hn : n ≤ 9223372036854775807) (hm : m ≤ 1000000) : n * m / 18446744073709551616 < 1000000 := by
  have := Nat.mul_le_mul hn hm
  omega

set_option maxRecDepth 100000 in
set_option maxHeartbeats 1000000 in
theorem rated_any (n m : Nat) (w : World) (hn : n ≤ 9223372036854775807) (hm : m ≤ 1000000) :
    Calls Try.prog 107 #[.int .i64 n, .int .i64 m] w fun e w' => e = .returned (.int .i64 ((n * m / 1000000 : Nat) : Int)) ∧ Below w.heap.size w w' := by
  have c1 := mul_any n m w (by omega) (by omega); have c2 := div_any (n * m / 18446744073709551616) (n * m % 18446744073709551616) 1000000 w (Nat.mod_lt _ (by omega)) (by omega) (by omega) (rated_hi n m hn hm); rw [show n * m / 18446744073709551616 * 18446744073709551616 + n * m % 18446744073709551616 = n * m from Nat.div_add_mod' _ _] at c2; have hle := rated_le n m hm
  generalize n * m / 18446744073709551616 = H at c1 c2
  generalize n * m % 18446744073709551616 = L at c1 c2
  generalize n * m / 1000000 = X at c2 hle ⊢
  have C1 := hide c1; have C2 := hide c2; clear c1 c2; go_enter Try.func107, Try.ntmps107
  go_wp2_with fail
  refine C1.out.mono ?_; rintro e w1 ⟨rfl, rfl⟩
  go_wp2_with fail
  refine C2.out.mono ?_; rintro e w2 ⟨r, rfl, hb⟩
  go_wp2
  go_ret
  exact ⟨rfl, hb⟩
end Go.Proofs.Ytgnkcmmpbohafaa

/- Contracts of amount.mayFees over this seat's translation. -/
namespace Go.Proofs.Ytgnkcmmpbohafaa
open Go.RowKit
set_option linter.unusedVariables false

/-- may fees be? -/
def rightB (b r : Int) : Bool := decide (0 ≤ b ∧ 0 ≤ r ∧ r ≤ 1000000)
def rightsB (b r : Nat → Int) (n : Nat) : Bool := decide (∀ k, k < n → rightB (b k) (r k) = true)

set_option maxHeartbeats 1000000 in
theorem fees_row (bl off len cap : Nat) (b r : Nat → Int) (w : World) (hb : len ≤ 9223372036854775807) (hbl : bl < w.heap.size)
    (hc : ∀ k, k < len → w.cell? ⟨bl, off + k * 2, none⟩ = some (.int .i64 (b k)) ∧ w.cell? ⟨bl, off + k * 2 + 1, none⟩ = some (.int .i64 (r k)))
    (hw : ∀ k, k < len → b k ≤ 9223372036854775807) :
    Calls Try.prog 105 #[.slice (some ⟨bl, off, none⟩) len cap] w fun e w' => e = .returned (.bool (rightsB b r len)) ∧ Below w.heap.size w w' := by
  go_enter Try.func105, Try.ntmps105
  go_wp2
  go_loopw [7] (fun i wr => ∃ k : Nat, k ≤ len ∧ i = .int .i64 k ∧ Hid (∀ j, j < k → rightB (b j) (r j) = true) ∧ Below w.heap.size w wr) (fun i _ => len - (intOf i).toNat)
  case atStart => exact ⟨0, Nat.zero_le _, rfl, fun j hj => absurd hj (Nat.not_lt_zero _), Below.refl _ _⟩
  case round =>
    obtain ⟨k, hk, rfl, HN, hbel⟩ := hrel
    by_cases hlt : k < len
    · have hck := hc k hlt
      have hwk := hw k hlt
      have q1 : wr.cell? ⟨bl, off + k * 2, none⟩ = some (.int .i64 (b k)) := (hbel.cell (by exact hbl)).trans hck.1
      have q2 : wr.cell? ⟨bl, off + k * 2 + 1, none⟩ = some (.int .i64 (r k)) := (hbel.cell (by exact hbl)).trans hck.2
      clear hc hw hck; obtain ⟨bk, hbk⟩ : ∃ bk, bk = b k := ⟨_, rfl⟩; obtain ⟨rk, hrk⟩ : ∃ rk, rk = r k := ⟨_, rfl⟩; rw [← hbk] at q1 hwk; rw [← hrk] at q2; have HBK := hide hbk; have HRK := hide hrk; clear hbk hrk
      have hB : ∀ o1 o2, Below w.heap.size w ((wr.alloc o1).alloc o2) := fun o1 o2 =>
        (hbel.alloc hbel.size o1).alloc (by have := hbel.size; simp; omega) o2
      have HR : Hid (∀ j, j < k → rightB (b j) (r j) = true) := HN
      have HF : Hid (rightB bk rk = false → rightsB b r len = false) := fun h => by
        refine decide_eq_false fun hh => ?_
        have := hh k hlt
        rw [← HBK.out, ← HRK.out, h] at this; exact absurd this (by decide)
      by_cases h0 : bk < 0
      · have HZ : Hid (rightsB b r len = false) := HF.out (decide_eq_false (by omega))
        go_wp2_with fail
        refine (may1_no _ bk _ (by simp) h0).mono ?_; rintro e w' ⟨rfl, rfl⟩
        go_wp2
        go_ret
        exact ⟨by rw [HZ.out]; rfl, hB _ _⟩
      · have h0' : 0 ≤ bk := by omega
        clear h0
        by_cases h1 : rk < 0
        · have HZ : Hid (rightsB b r len = false) := HF.out (decide_eq_false (by omega))
          go_wp2_with fail
          refine (may1_yes _ bk _ (by simp) h0' hwk).mono ?_; rintro e w' ⟨rfl, rfl⟩
          go_wp2
          go_ret
          exact ⟨by rw [HZ.out]; rfl, hB _ _⟩
        · by_cases h2 : 1000000 < rk
          · have HZ : Hid (rightsB b r len = false) := HF.out (decide_eq_false (by omega))
            go_wp2_with fail
            refine (may1_yes _ bk _ (by simp) h0' hwk).mono ?_; rintro e w' ⟨rfl, rfl⟩
            go_wp2
            go_ret
            exact ⟨by rw [HZ.out]; rfl, hB _ _⟩
          · go_wp2_with fail
            refine (may1_yes _ bk _ (by simp) h0' hwk).mono ?_; rintro e w' ⟨rfl, rfl⟩
            go_wp2
            go_roundw
            case rel =>
              refine ⟨k + 1, by omega, by go_num, fun j hj => ?_, hB _ _⟩
              by_cases hjk : j < k
              · exact HN.out j hjk
              · have e : j = k := by omega
                subst e; rw [← HBK.out, ← HRK.out]; exact decide_eq_true (by omega)
            case measure => simp [intOf]; omega
    · have HZ : Hid (rightsB b r len = true) := decide_eq_true fun j hj => HN.out j (by omega)
      clear hc hw
      go_wp2
      go_ret
      exact ⟨by rw [HZ.out]; rfl, hbel⟩

theorem fees1 (bl : Nat) (b r : Int) (w : World) (hbl : bl < w.heap.size) (h1 : w.cell? ⟨bl, 0, none⟩ = some (.int .i64 b)) (h2 : w.cell? ⟨bl, 1, none⟩ = some (.int .i64 r)) (hb : b ≤ 9223372036854775807) :
    Calls Try.prog 105 #[.slice (some ⟨bl, 0, none⟩) 1 1] w fun e w' => e = .returned (.bool (rightB b r)) ∧ Below w.heap.size w w' := by
  refine (fees_row bl 0 1 1 (fun _ => b) (fun _ => r) w (by omega) hbl (fun k hk => ?_) (fun _ _ => hb)).mono fun e w' h => ?_
  · match k, hk with
    | 0, _ => exact ⟨h1, h2⟩
  · have e1 : rightsB (fun _ => b) (fun _ => r) 1 = rightB b r := by
      unfold rightsB
      cases hq : rightB b r
      · refine decide_eq_false fun hh => ?_
        have h0 : rightB b r = true := hh 0 (by omega)
        rw [hq] at h0; exact absurd h0 (by decide)
      · exact decide_eq_true fun _ _ => hq
    rw [e1] at h; exact h

end Go.Proofs.Ytgnkcmmpbohafaa

/- Contracts of amount.Fee, In and Out over this seat's translation. -/
namespace Go.Proofs.Ytgnkcmmpbohafaa
open Go.RowKit
set_option linter.unusedVariables false

/-- the fee of x, and its error -/
def feeN (b r x : Int) : Int := if rightB b r = true ∧ 0 ≤ x then addN b (x * r / 1000000) else 0
def feeE (b r x : Int) : Int := if rightB b r = true ∧ 0 ≤ x then addE b (x * r / 1000000) else 1

theorem bcell {W w1 : World} (hb : Below W.heap.size W w1) : (∀ b o, b < W.heap.size → w1.cell? ⟨b, o, none⟩ = W.cell? ⟨b, o, none⟩) ∧ (∀ b o, b < W.heap.size → w1.frozen? ⟨b, o, none⟩ = W.frozen? ⟨b, o, none⟩) :=
  ⟨fun b o h => hb.cell (p := ⟨b, o, none⟩) h, fun b o h => hb.frozen (p := ⟨b, o, none⟩) h⟩

theorem rated_int (x r : Int) (w : World) (h1 : 0 ≤ x) (h2 : x ≤ 9223372036854775807) (h3 : 0 ≤ r) (h4 : r ≤ 1000000) :
    Calls Try.prog 107 #[.int .i64 x, .int .i64 r] w fun e w' => e = .returned (.int .i64 (x * r / 1000000)) ∧ Below w.heap.size w w' := by
  obtain ⟨n, rfl⟩ := Int.eq_ofNat_of_zero_le h1; obtain ⟨m, rfl⟩ := Int.eq_ofNat_of_zero_le h3; refine (rated_any n m w (by omega) (by omega)).mono fun e w' h => ?_; rw [show (n : Int) * (m : Int) / 1000000 = ((n * m / 1000000 : Nat) : Int) by rw [← Int.natCast_mul]; rfl]; exact h

theorem part_le (x r : Int) (h1 : 0 ≤ x) (h3 : 0 ≤ r) (h4 : r ≤ 1000000) : 0 ≤ x * r / 1000000 ∧ x * r / 1000000 ≤ x := by
  obtain ⟨n, rfl⟩ := Int.eq_ofNat_of_zero_le h1; obtain ⟨m, rfl⟩ := Int.eq_ofNat_of_zero_le h3
  have := rated_le n m (by omega)
  rw [show (n : Int) * (m : Int) / 1000000 = ((n * m / 1000000 : Nat) : Int) by rw [← Int.natCast_mul]; rfl]
  omega

set_option maxHeartbeats 1000000 in
theorem fee_any (b r x : Int) (w : World) (b2 : b ≤ 9223372036854775807) (x2 : x ≤ 9223372036854775807) :
    Calls Try.prog 94 #[.agg #[.int .i64 b, .int .i64 r], .int .i64 x] w fun e w' => e = .returned (.tuple #[.int .i64 (feeN b r x), .int .i64 (feeE b r x)]) ∧ Below w.heap.size w w' := by
  by_cases hR : rightB b r = true
  · have hr : 0 ≤ b ∧ 0 ≤ r ∧ r ≤ 1000000 := of_decide_eq_true hR
    by_cases hx : x < 0
    · have e1 : feeN b r x = 0 := if_neg (by omega)
      have e2 : feeE b r x = 1 := if_neg (by omega)
      rw [e1, e2]; clear e1 e2; have HR := hide hR; clear hR; go_enter Try.func94, Try.ntmps94
      go_wp2_with fail
      refine (fees1 _ b r _ (by simp) (by simp) (by simp) b2).mono ?_; rw [HR.out]; rintro e w1 ⟨rfl, hb⟩; obtain ⟨hc, hf⟩ := bcell hb
      have hz : w.heap.size + 1 < w1.heap.size := by have := hb.size; simp at this; omega
      have hB : Below w.heap.size w w1 := ((((Below.refl _ _).alloc (Nat.le_refl _) _).alloc (by simp) _).trans (hb.mono (by simp; omega)))
      clear hb
      go_wp2_with fail
      refine (may1_no _ x _ (by simp) hx).mono ?_; rintro e w2 ⟨rfl, rfl⟩
      go_wp2
      go_ret2
      exact ⟨rfl, hB.alloc (by omega) _⟩
    · have hx0 : 0 ≤ x := by omega
      have e1 : feeN b r x = addN b (x * r / 1000000) := if_pos ⟨hR, hx0⟩
      have e2 : feeE b r x = addE b (x * r / 1000000) := if_pos ⟨hR, hx0⟩
      have hp := part_le x r hx0 hr.2.1 hr.2.2; have HC := hide (fun w => rated_int x r w hx0 x2 hr.2.1 hr.2.2); rw [e1, e2]; clear e1 e2
      generalize x * r / 1000000 = X at hp HC ⊢
      have HR := hide hR; clear hR; go_enter Try.func94, Try.ntmps94
      go_wp2_with fail
      refine (fees1 _ b r _ (by simp) (by simp) (by simp) b2).mono ?_; rw [HR.out]; rintro e w1 ⟨rfl, hb⟩; obtain ⟨hc, hf⟩ := bcell hb
      have hz : w.heap.size + 1 < w1.heap.size := by have := hb.size; simp at this; omega
      have hB : Below w.heap.size w w1 := ((((Below.refl _ _).alloc (Nat.le_refl _) _).alloc (by simp) _).trans (hb.mono (by simp; omega)))
      have q0 : w1.cell? ⟨w.heap.size, 0, none⟩ = some (.int .i64 b) := (hc _ _ (by simp; omega)).trans (by simp)
      have q1 : w1.cell? ⟨w.heap.size, 1, none⟩ = some (.int .i64 r) := (hc _ _ (by simp; omega)).trans (by simp)
      clear hb hc hf
      go_wp2_with fail
      refine (may1_yes _ x _ (by simp) hx0 x2).mono ?_; rintro e w2 ⟨rfl, rfl⟩
      go_wp2
      have p0 : (w1.alloc (.cells #[.int .i64 x] 3)).cell? ⟨w.heap.size, 0, none⟩ = some (.int .i64 b) := by rw [World.cell?_alloc_past _ _ _ (by show w.heap.size < _; omega)]; exact q0
      have p1 : (w1.alloc (.cells #[.int .i64 x] 3)).cell? ⟨w.heap.size, 1, none⟩ = some (.int .i64 r) := by rw [World.cell?_alloc_past _ _ _ (by show w.heap.size < _; omega)]; exact q1
      have pz : w.heap.size < (w1.alloc (.cells #[.int .i64 x] 3)).heap.size := by simp; omega
      have pB : Below w.heap.size w (w1.alloc (.cells #[.int .i64 x] 3)) := hB.alloc (by omega) _
      clear q0 q1 hB hz
      generalize w1.alloc (.cells #[.int .i64 x] 3) = W2 at p0 p1 pz pB ⊢
      have PB := hide pB; clear pB
      go_region_with (first
        | (go_at_call 107; refine (HC.out _).mono ?_; rintro e w3 ⟨rfl, hb3⟩; have p3 : w3.cell? ⟨w.heap.size, 0, none⟩ = some (.int .i64 b) := (hb3.cell (p := ⟨w.heap.size, 0, none⟩) (by simpa using pz)).trans (by simpa using p0); have z3 : W2.heap.size ≤ w3.heap.size := by simpa using hb3.size)
        | (go_at_call 95; refine (add_any b X _ (by omega) (by omega) (by omega) (by omega)).mono ?_; rintro e w4 ⟨rfl, hb4⟩))
      all_goals
        go_wp2
        go_ret2
        exact ⟨rfl, ((PB.out.drew).trans (hb3.mono (by simpa using Nat.le_of_lt pz))).trans (hb4.mono (by omega))⟩
  · have hR' : rightB b r = false := by simpa using hR
    have e1 : feeN b r x = 0 := if_neg (fun h => hR h.1)
    have e2 : feeE b r x = 1 := if_neg (fun h => hR h.1)
    rw [e1, e2]; clear e1 e2 hR; have HR := hide hR'; clear hR'; go_enter Try.func94, Try.ntmps94
    go_wp2_with fail
    refine (fees1 _ b r _ (by simp) (by simp) (by simp) b2).mono ?_; rw [HR.out]; rintro e w1 ⟨rfl, hb⟩
    have hB : Below w.heap.size w w1 := ((((Below.refl _ _).alloc (Nat.le_refl _) _).alloc (by simp) _).trans (hb.mono (by simp; omega)))
    clear hb
    go_wp2
    go_ret2
    exact ⟨rfl, hB⟩

theorem feeN_le (b r x : Int) (hb : b ≤ 9223372036854775807) (hx : x ≤ 9223372036854775807) : 0 ≤ feeN b r x ∧ feeN b r x ≤ 9223372036854775807 := by
  unfold feeN addN
  repeat' split
  all_goals omega
theorem feeE_cases (b r x : Int) : feeE b r x = 0 ∨ feeE b r x = 1 ∨ feeE b r x = 20 := by
  unfold feeE addE
  repeat' split
  all_goals omega

/-- what comes in, and its error -/
def inN (b r x : Int) : Int := if feeE b r x = 0 then addN x (feeN b r x) else 0
def inE (b r x : Int) : Int := if feeE b r x = 0 then addE x (feeN b r x) else feeE b r x

set_option maxHeartbeats 1000000 in
theorem in_any (b r x : Int) (w : World) (b2 : b ≤ 9223372036854775807) (x1 : -9223372036854775808 ≤ x) (x2 : x ≤ 9223372036854775807) :
    Calls Try.prog 76 #[.agg #[.int .i64 b, .int .i64 r], .int .i64 x] w fun e w' => e = .returned (.tuple #[.int .i64 (inN b r x), .int .i64 (inE b r x)]) ∧ Below w.heap.size w w' := by
  have HC := hide (fun w => fee_any b r x w b2 x2); have hl := feeN_le b r x b2 x2
  by_cases h0 : feeE b r x = 0
  · have e1 : inN b r x = addN x (feeN b r x) := if_pos h0
    have e2 : inE b r x = addE x (feeN b r x) := if_pos h0
    rw [e1, e2]; rw [h0] at HC; clear e1 e2 h0
    generalize feeN b r x = N at *
    have HB := hide (fun w => add_any x N w x1 x2 (by omega) hl.2); go_enter Try.func76, Try.ntmps76
    go_wp2_with fail
    refine (HC.out _).mono ?_; rintro e w1 ⟨rfl, hb⟩
    have hz : w.heap.size < w1.heap.size := by have := hb.size; simp at this; omega
    have hB : Below w.heap.size w w1 := ((Below.refl _ _).alloc (Nat.le_refl _) _).trans (hb.mono (by simp))
    clear hb
    go_wp2_with fail
    refine (HB.out _).mono ?_; rintro e w2 ⟨rfl, hb2⟩
    go_wp2
    go_ret2
    exact ⟨rfl, hB.trans (hb2.mono (by omega))⟩
  · have e1 : inN b r x = 0 := if_neg h0
    have e2 : inE b r x = feeE b r x := if_neg h0
    rw [e1, e2]; clear e1 e2; have hc := feeE_cases b r x
    generalize feeN b r x = N at *
    generalize feeE b r x = E at *
    have g0 : (E != 0) = true := by simp; exact h0
    go_enter Try.func76, Try.ntmps76
    go_wp2_with fail
    refine (HC.out _).mono ?_; rintro e w1 ⟨rfl, hb⟩
    have hB : Below w.heap.size w w1 := ((Below.refl _ _).alloc (Nat.le_refl _) _).trans (hb.mono (by simp))
    clear hb
    go_wp2
    go_ret2
    exact ⟨rfl, hB⟩
end Go.Proofs.Ytgnkcmmpbohafaa
