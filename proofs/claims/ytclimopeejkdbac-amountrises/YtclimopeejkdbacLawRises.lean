/- Proved: for all fees and all two ints the statement AmountRises (P2.2: of a greater amount neither the fee nor what comes in is less) returns true over the code at the commit, and changes none of its arguments. No condition. -/
import Derived.Test.YtclimopeejkdbacRows
import Derived.Test.YtclimopeejkdbacAmtLives
import Derived.Test.YtclimopeejkdbacAmtOut
import Derived.WalkKit
import Derived.ProofKit
import Derived.OpenShut
import Derived.Lib.SmallJoins
namespace Go.Proofs.Ytclimopeejkdbac.amountRises
open Go.ChangeShapes Go.WideShapes Go.ChangeAt Go.RowKit Go.Joins
set_option linter.unusedVariables false

set_option maxHeartbeats 1000000 in
theorem neg_u (b r x y A B E G : Int) (w : World) (hxy : x ≤ y) (hx : feeN b r x = A ∧ feeE b r x = E) (hy : feeN b r y = B ∧ feeE b r y = G) (h0 : x < 0) (hE : (E != 0) = true)
    (b2 : b ≤ 9223372036854775807) (x1 : -9223372036854775808 ≤ x) (x2 : x ≤ 9223372036854775807) (y1 : -9223372036854775808 ≤ y) (y2 : y ≤ 9223372036854775807) :
    Calls Try.prog 6 #[.agg #[.int .i64 b, .int .i64 r], .int .i64 x, .int .i64 y] w fun e w' => e = .returned (.bool true) ∧ Below w.heap.size w w' := by
  have H1 := hide (fun w => fee_any b r x w b2 x2)
  rw [hx.1, hx.2] at H1
  have H2 := hide (fun w => fee_any b r y w b2 y2)
  rw [hy.1, hy.2] at H2
  clear hx hy
  go_enter Try.func6, Try.ntmps6
  go_wp2_with fail
  refine (H1.out _).mono ?_
  rintro e w1 ⟨rfl, hb⟩
  have z1 : w.heap.size < w1.heap.size := by have := hb.size; simp at this; omega
  have HB1 := hide (((Below.refl w.heap.size w).alloc (Nat.le_refl _) _).trans (hb.mono (by simp)))
  have c0 : w1.cell? ⟨w.heap.size, 0, none⟩ = some (.int .i64 b) := (hb.cell (by simp)).trans (by simp)
  have c1 : w1.cell? ⟨w.heap.size, 1, none⟩ = some (.int .i64 r) := (hb.cell (by simp)).trans (by simp)
  clear hb
  go_wp2_with fail
  refine (H2.out _).mono ?_
  rintro e w2 ⟨rfl, hb⟩
  have z2 : w.heap.size < w2.heap.size := by have := hb.size; omega
  have HB2 := hide (HB1.out.trans (hb.mono (by omega)))
  have d0 : w2.cell? ⟨w.heap.size, 0, none⟩ = some (.int .i64 b) := (hb.cell (by exact z1)).trans c0
  have d1 : w2.cell? ⟨w.heap.size, 1, none⟩ = some (.int .i64 r) := (hb.cell (by exact z1)).trans c1
  clear hb c0 c1
  go_wp2_with fail
  refine (lives_any _).mono ?_
  rintro e w3 ⟨rfl, hb⟩
  have z3 : w.heap.size < w3.heap.size := by have := hb.size; omega
  have HB3 := hide (HB2.out.trans (hb.mono (by omega)))
  have c0 : w3.cell? ⟨w.heap.size, 0, none⟩ = some (.int .i64 b) := (hb.cell (by exact z2)).trans d0
  have c1 : w3.cell? ⟨w.heap.size, 1, none⟩ = some (.int .i64 r) := (hb.cell (by exact z2)).trans d1
  clear hb d0 d1
  go_wp2
  go_ret
  exact ⟨by simp, HB3.out⟩

set_option maxHeartbeats 1000000 in
theorem same_u (b r x y A B E G : Int) (w : World) (hxy : x ≤ y) (hx : feeN b r x = A ∧ feeE b r x = E) (hy : feeN b r y = B ∧ feeE b r y = G) (h0 : ¬ x < 0) (hE : (E != 0) = true) (hE0 : (E == 0) = false) (hG : G = E)
    (b2 : b ≤ 9223372036854775807) (x1 : -9223372036854775808 ≤ x) (x2 : x ≤ 9223372036854775807) (y1 : -9223372036854775808 ≤ y) (y2 : y ≤ 9223372036854775807) :
    Calls Try.prog 6 #[.agg #[.int .i64 b, .int .i64 r], .int .i64 x, .int .i64 y] w fun e w' => e = .returned (.bool true) ∧ Below w.heap.size w w' := by
  have H1 := hide (fun w => fee_any b r x w b2 x2)
  rw [hx.1, hx.2] at H1
  have H2 := hide (fun w => fee_any b r y w b2 y2)
  rw [hy.1, hy.2] at H2
  clear hx hy
  subst hG
  go_enter Try.func6, Try.ntmps6
  go_wp2_with fail
  refine (H1.out _).mono ?_
  rintro e w1 ⟨rfl, hb⟩
  have z1 : w.heap.size < w1.heap.size := by have := hb.size; simp at this; omega
  have HB1 := hide (((Below.refl w.heap.size w).alloc (Nat.le_refl _) _).trans (hb.mono (by simp)))
  have c0 : w1.cell? ⟨w.heap.size, 0, none⟩ = some (.int .i64 b) := (hb.cell (by simp)).trans (by simp)
  have c1 : w1.cell? ⟨w.heap.size, 1, none⟩ = some (.int .i64 r) := (hb.cell (by simp)).trans (by simp)
  clear hb
  go_wp2_with fail
  refine (H2.out _).mono ?_
  rintro e w2 ⟨rfl, hb⟩
  have z2 : w.heap.size < w2.heap.size := by have := hb.size; omega
  have HB2 := hide (HB1.out.trans (hb.mono (by omega)))
  have d0 : w2.cell? ⟨w.heap.size, 0, none⟩ = some (.int .i64 b) := (hb.cell (by exact z1)).trans c0
  have d1 : w2.cell? ⟨w.heap.size, 1, none⟩ = some (.int .i64 r) := (hb.cell (by exact z1)).trans c1
  clear hb c0 c1
  go_wp2_with fail
  refine (lives_any _).mono ?_
  rintro e w3 ⟨rfl, hb⟩
  have z3 : w.heap.size < w3.heap.size := by have := hb.size; omega
  have HB3 := hide (HB2.out.trans (hb.mono (by omega)))
  have c0 : w3.cell? ⟨w.heap.size, 0, none⟩ = some (.int .i64 b) := (hb.cell (by exact z2)).trans d0
  have c1 : w3.cell? ⟨w.heap.size, 1, none⟩ = some (.int .i64 r) := (hb.cell (by exact z2)).trans d1
  clear hb d0 d1
  go_wp2
  go_ret
  exact ⟨by simp, HB3.out⟩

set_option maxHeartbeats 1000000 in
theorem over_u (b r x y A B : Int) (w : World) (hxy : x ≤ y) (hx : feeN b r x = A ∧ feeE b r x = 0) (hy : feeN b r y = B ∧ feeE b r y = 20) (h0 : ¬ x < 0)
    (b2 : b ≤ 9223372036854775807) (x1 : -9223372036854775808 ≤ x) (x2 : x ≤ 9223372036854775807) (y1 : -9223372036854775808 ≤ y) (y2 : y ≤ 9223372036854775807) :
    Calls Try.prog 6 #[.agg #[.int .i64 b, .int .i64 r], .int .i64 x, .int .i64 y] w fun e w' => e = .returned (.bool true) ∧ Below w.heap.size w w' := by
  have H1 := hide (fun w => fee_any b r x w b2 x2)
  rw [hx.1, hx.2] at H1
  have H2 := hide (fun w => fee_any b r y w b2 y2)
  rw [hy.1, hy.2] at H2
  clear hx hy
  go_enter Try.func6, Try.ntmps6
  go_wp2_with fail
  refine (H1.out _).mono ?_
  rintro e w1 ⟨rfl, hb⟩
  have z1 : w.heap.size < w1.heap.size := by have := hb.size; simp at this; omega
  have HB1 := hide (((Below.refl w.heap.size w).alloc (Nat.le_refl _) _).trans (hb.mono (by simp)))
  have c0 : w1.cell? ⟨w.heap.size, 0, none⟩ = some (.int .i64 b) := (hb.cell (by simp)).trans (by simp)
  have c1 : w1.cell? ⟨w.heap.size, 1, none⟩ = some (.int .i64 r) := (hb.cell (by simp)).trans (by simp)
  clear hb
  go_wp2_with fail
  refine (H2.out _).mono ?_
  rintro e w2 ⟨rfl, hb⟩
  have z2 : w.heap.size < w2.heap.size := by have := hb.size; omega
  have HB2 := hide (HB1.out.trans (hb.mono (by omega)))
  have d0 : w2.cell? ⟨w.heap.size, 0, none⟩ = some (.int .i64 b) := (hb.cell (by exact z1)).trans c0
  have d1 : w2.cell? ⟨w.heap.size, 1, none⟩ = some (.int .i64 r) := (hb.cell (by exact z1)).trans c1
  clear hb c0 c1
  go_wp2_with fail
  refine (lives_any _).mono ?_
  rintro e w3 ⟨rfl, hb⟩
  have z3 : w.heap.size < w3.heap.size := by have := hb.size; omega
  have HB3 := hide (HB2.out.trans (hb.mono (by omega)))
  have c0 : w3.cell? ⟨w.heap.size, 0, none⟩ = some (.int .i64 b) := (hb.cell (by exact z2)).trans d0
  have c1 : w3.cell? ⟨w.heap.size, 1, none⟩ = some (.int .i64 r) := (hb.cell (by exact z2)).trans d1
  clear hb d0 d1
  go_wp2
  go_ret
  exact ⟨by simp, HB3.out⟩

set_option maxHeartbeats 1000000 in
theorem ok_u (b r x y A B C D : Int) (w : World) (hxy : x ≤ y) (hx : feeN b r x = A ∧ feeE b r x = 0) (hy : feeN b r y = B ∧ feeE b r y = 0) (hAB : A ≤ B) (hc : inN b r x = C ∧ inE b r x = 0) (hd : inN b r y = D ∧ inE b r y = 0) (hCD : C ≤ D)
    (b2 : b ≤ 9223372036854775807) (x1 : -9223372036854775808 ≤ x) (x2 : x ≤ 9223372036854775807) (y1 : -9223372036854775808 ≤ y) (y2 : y ≤ 9223372036854775807) :
    Calls Try.prog 6 #[.agg #[.int .i64 b, .int .i64 r], .int .i64 x, .int .i64 y] w fun e w' => e = .returned (.bool true) ∧ Below w.heap.size w w' := by
  have H1 := hide (fun w => fee_any b r x w b2 x2)
  rw [hx.1, hx.2] at H1
  have H2 := hide (fun w => fee_any b r y w b2 y2)
  rw [hy.1, hy.2] at H2
  have H3 := hide (fun w => in_any b r x w b2 x1 x2)
  rw [hc.1, hc.2] at H3
  have H4 := hide (fun w => in_any b r y w b2 y1 y2)
  rw [hd.1, hd.2] at H4
  clear hc hd
  clear hx hy
  go_enter Try.func6, Try.ntmps6
  go_wp2_with fail
  refine (H1.out _).mono ?_
  rintro e w1 ⟨rfl, hb⟩
  have z1 : w.heap.size < w1.heap.size := by have := hb.size; simp at this; omega
  have HB1 := hide (((Below.refl w.heap.size w).alloc (Nat.le_refl _) _).trans (hb.mono (by simp)))
  have c0 : w1.cell? ⟨w.heap.size, 0, none⟩ = some (.int .i64 b) := (hb.cell (by simp)).trans (by simp)
  have c1 : w1.cell? ⟨w.heap.size, 1, none⟩ = some (.int .i64 r) := (hb.cell (by simp)).trans (by simp)
  clear hb
  go_wp2_with fail
  refine (H2.out _).mono ?_
  rintro e w2 ⟨rfl, hb⟩
  have z2 : w.heap.size < w2.heap.size := by have := hb.size; omega
  have HB2 := hide (HB1.out.trans (hb.mono (by omega)))
  have d0 : w2.cell? ⟨w.heap.size, 0, none⟩ = some (.int .i64 b) := (hb.cell (by exact z1)).trans c0
  have d1 : w2.cell? ⟨w.heap.size, 1, none⟩ = some (.int .i64 r) := (hb.cell (by exact z1)).trans c1
  clear hb c0 c1
  go_wp2_with fail
  refine (lives_any _).mono ?_
  rintro e w3 ⟨rfl, hb⟩
  have z3 : w.heap.size < w3.heap.size := by have := hb.size; omega
  have HB3 := hide (HB2.out.trans (hb.mono (by omega)))
  have c0 : w3.cell? ⟨w.heap.size, 0, none⟩ = some (.int .i64 b) := (hb.cell (by exact z2)).trans d0
  have c1 : w3.cell? ⟨w.heap.size, 1, none⟩ = some (.int .i64 r) := (hb.cell (by exact z2)).trans d1
  clear hb d0 d1
  go_wp2_with fail
  refine (H3.out _).mono ?_
  rintro e w4 ⟨rfl, hb⟩
  have z4 : w.heap.size < w4.heap.size := by have := hb.size; omega
  have HB4 := hide (HB3.out.trans (hb.mono (by omega)))
  have d0 : w4.cell? ⟨w.heap.size, 0, none⟩ = some (.int .i64 b) := (hb.cell (by exact z3)).trans c0
  have d1 : w4.cell? ⟨w.heap.size, 1, none⟩ = some (.int .i64 r) := (hb.cell (by exact z3)).trans c1
  clear hb c0 c1
  go_wp2_with fail
  refine (H4.out _).mono ?_
  rintro e w5 ⟨rfl, hb⟩
  have HB5 := hide (HB4.out.trans (hb.mono (by omega)))
  clear hb
  go_wp2
  go_ret
  exact ⟨by simp, HB5.out⟩

set_option maxHeartbeats 1000000 in
theorem half_u (b r x y A B C D : Int) (w : World) (hxy : x ≤ y) (hx : feeN b r x = A ∧ feeE b r x = 0) (hy : feeN b r y = B ∧ feeE b r y = 0) (hAB : A ≤ B) (hc : inN b r x = C ∧ inE b r x = 0) (hd : inN b r y = D ∧ inE b r y = 20) 
    (b2 : b ≤ 9223372036854775807) (x1 : -9223372036854775808 ≤ x) (x2 : x ≤ 9223372036854775807) (y1 : -9223372036854775808 ≤ y) (y2 : y ≤ 9223372036854775807) :
    Calls Try.prog 6 #[.agg #[.int .i64 b, .int .i64 r], .int .i64 x, .int .i64 y] w fun e w' => e = .returned (.bool true) ∧ Below w.heap.size w w' := by
  have H1 := hide (fun w => fee_any b r x w b2 x2)
  rw [hx.1, hx.2] at H1
  have H2 := hide (fun w => fee_any b r y w b2 y2)
  rw [hy.1, hy.2] at H2
  have H3 := hide (fun w => in_any b r x w b2 x1 x2)
  rw [hc.1, hc.2] at H3
  have H4 := hide (fun w => in_any b r y w b2 y1 y2)
  rw [hd.1, hd.2] at H4
  clear hc hd
  clear hx hy
  go_enter Try.func6, Try.ntmps6
  go_wp2_with fail
  refine (H1.out _).mono ?_
  rintro e w1 ⟨rfl, hb⟩
  have z1 : w.heap.size < w1.heap.size := by have := hb.size; simp at this; omega
  have HB1 := hide (((Below.refl w.heap.size w).alloc (Nat.le_refl _) _).trans (hb.mono (by simp)))
  have c0 : w1.cell? ⟨w.heap.size, 0, none⟩ = some (.int .i64 b) := (hb.cell (by simp)).trans (by simp)
  have c1 : w1.cell? ⟨w.heap.size, 1, none⟩ = some (.int .i64 r) := (hb.cell (by simp)).trans (by simp)
  clear hb
  go_wp2_with fail
  refine (H2.out _).mono ?_
  rintro e w2 ⟨rfl, hb⟩
  have z2 : w.heap.size < w2.heap.size := by have := hb.size; omega
  have HB2 := hide (HB1.out.trans (hb.mono (by omega)))
  have d0 : w2.cell? ⟨w.heap.size, 0, none⟩ = some (.int .i64 b) := (hb.cell (by exact z1)).trans c0
  have d1 : w2.cell? ⟨w.heap.size, 1, none⟩ = some (.int .i64 r) := (hb.cell (by exact z1)).trans c1
  clear hb c0 c1
  go_wp2_with fail
  refine (lives_any _).mono ?_
  rintro e w3 ⟨rfl, hb⟩
  have z3 : w.heap.size < w3.heap.size := by have := hb.size; omega
  have HB3 := hide (HB2.out.trans (hb.mono (by omega)))
  have c0 : w3.cell? ⟨w.heap.size, 0, none⟩ = some (.int .i64 b) := (hb.cell (by exact z2)).trans d0
  have c1 : w3.cell? ⟨w.heap.size, 1, none⟩ = some (.int .i64 r) := (hb.cell (by exact z2)).trans d1
  clear hb d0 d1
  go_wp2_with fail
  refine (H3.out _).mono ?_
  rintro e w4 ⟨rfl, hb⟩
  have z4 : w.heap.size < w4.heap.size := by have := hb.size; omega
  have HB4 := hide (HB3.out.trans (hb.mono (by omega)))
  have d0 : w4.cell? ⟨w.heap.size, 0, none⟩ = some (.int .i64 b) := (hb.cell (by exact z3)).trans c0
  have d1 : w4.cell? ⟨w.heap.size, 1, none⟩ = some (.int .i64 r) := (hb.cell (by exact z3)).trans c1
  clear hb c0 c1
  go_wp2_with fail
  refine (H4.out _).mono ?_
  rintro e w5 ⟨rfl, hb⟩
  have HB5 := hide (HB4.out.trans (hb.mono (by omega)))
  clear hb
  go_wp2
  go_ret
  exact ⟨by simp, HB5.out⟩

set_option maxHeartbeats 1000000 in
theorem none_u (b r x y A B C D : Int) (w : World) (hxy : x ≤ y) (hx : feeN b r x = A ∧ feeE b r x = 0) (hy : feeN b r y = B ∧ feeE b r y = 0) (hAB : A ≤ B) (hc : inN b r x = C ∧ inE b r x = 20) (hd : inN b r y = D ∧ inE b r y = 20) 
    (b2 : b ≤ 9223372036854775807) (x1 : -9223372036854775808 ≤ x) (x2 : x ≤ 9223372036854775807) (y1 : -9223372036854775808 ≤ y) (y2 : y ≤ 9223372036854775807) :
    Calls Try.prog 6 #[.agg #[.int .i64 b, .int .i64 r], .int .i64 x, .int .i64 y] w fun e w' => e = .returned (.bool true) ∧ Below w.heap.size w w' := by
  have H1 := hide (fun w => fee_any b r x w b2 x2)
  rw [hx.1, hx.2] at H1
  have H2 := hide (fun w => fee_any b r y w b2 y2)
  rw [hy.1, hy.2] at H2
  have H3 := hide (fun w => in_any b r x w b2 x1 x2)
  rw [hc.1, hc.2] at H3
  have H4 := hide (fun w => in_any b r y w b2 y1 y2)
  rw [hd.1, hd.2] at H4
  clear hc hd
  clear hx hy
  go_enter Try.func6, Try.ntmps6
  go_wp2_with fail
  refine (H1.out _).mono ?_
  rintro e w1 ⟨rfl, hb⟩
  have z1 : w.heap.size < w1.heap.size := by have := hb.size; simp at this; omega
  have HB1 := hide (((Below.refl w.heap.size w).alloc (Nat.le_refl _) _).trans (hb.mono (by simp)))
  have c0 : w1.cell? ⟨w.heap.size, 0, none⟩ = some (.int .i64 b) := (hb.cell (by simp)).trans (by simp)
  have c1 : w1.cell? ⟨w.heap.size, 1, none⟩ = some (.int .i64 r) := (hb.cell (by simp)).trans (by simp)
  clear hb
  go_wp2_with fail
  refine (H2.out _).mono ?_
  rintro e w2 ⟨rfl, hb⟩
  have z2 : w.heap.size < w2.heap.size := by have := hb.size; omega
  have HB2 := hide (HB1.out.trans (hb.mono (by omega)))
  have d0 : w2.cell? ⟨w.heap.size, 0, none⟩ = some (.int .i64 b) := (hb.cell (by exact z1)).trans c0
  have d1 : w2.cell? ⟨w.heap.size, 1, none⟩ = some (.int .i64 r) := (hb.cell (by exact z1)).trans c1
  clear hb c0 c1
  go_wp2_with fail
  refine (lives_any _).mono ?_
  rintro e w3 ⟨rfl, hb⟩
  have z3 : w.heap.size < w3.heap.size := by have := hb.size; omega
  have HB3 := hide (HB2.out.trans (hb.mono (by omega)))
  have c0 : w3.cell? ⟨w.heap.size, 0, none⟩ = some (.int .i64 b) := (hb.cell (by exact z2)).trans d0
  have c1 : w3.cell? ⟨w.heap.size, 1, none⟩ = some (.int .i64 r) := (hb.cell (by exact z2)).trans d1
  clear hb d0 d1
  go_wp2_with fail
  refine (H3.out _).mono ?_
  rintro e w4 ⟨rfl, hb⟩
  have z4 : w.heap.size < w4.heap.size := by have := hb.size; omega
  have HB4 := hide (HB3.out.trans (hb.mono (by omega)))
  have d0 : w4.cell? ⟨w.heap.size, 0, none⟩ = some (.int .i64 b) := (hb.cell (by exact z3)).trans c0
  have d1 : w4.cell? ⟨w.heap.size, 1, none⟩ = some (.int .i64 r) := (hb.cell (by exact z3)).trans c1
  clear hb c0 c1
  go_wp2_with fail
  refine (H4.out _).mono ?_
  rintro e w5 ⟨rfl, hb⟩
  have HB5 := hide (HB4.out.trans (hb.mono (by omega)))
  clear hb
  go_wp2
  go_ret
  exact ⟨by simp, HB5.out⟩

set_option maxHeartbeats 1000000 in
theorem neg_d (b r x y A B E G : Int) (w : World) (hxy : x < y) (hx : feeN b r x = A ∧ feeE b r x = E) (hy : feeN b r y = B ∧ feeE b r y = G) (h0 : x < 0) (hE : (E != 0) = true)
    (b2 : b ≤ 9223372036854775807) (x1 : -9223372036854775808 ≤ x) (x2 : x ≤ 9223372036854775807) (y1 : -9223372036854775808 ≤ y) (y2 : y ≤ 9223372036854775807) :
    Calls Try.prog 6 #[.agg #[.int .i64 b, .int .i64 r], .int .i64 y, .int .i64 x] w fun e w' => e = .returned (.bool true) ∧ Below w.heap.size w w' := by
  have H1 := hide (fun w => fee_any b r x w b2 x2)
  rw [hx.1, hx.2] at H1
  have H2 := hide (fun w => fee_any b r y w b2 y2)
  rw [hy.1, hy.2] at H2
  clear hx hy
  go_enter Try.func6, Try.ntmps6
  go_wp2_with fail
  refine (H1.out _).mono ?_
  rintro e w1 ⟨rfl, hb⟩
  have z1 : w.heap.size < w1.heap.size := by have := hb.size; simp at this; omega
  have HB1 := hide (((Below.refl w.heap.size w).alloc (Nat.le_refl _) _).trans (hb.mono (by simp)))
  have c0 : w1.cell? ⟨w.heap.size, 0, none⟩ = some (.int .i64 b) := (hb.cell (by simp)).trans (by simp)
  have c1 : w1.cell? ⟨w.heap.size, 1, none⟩ = some (.int .i64 r) := (hb.cell (by simp)).trans (by simp)
  clear hb
  go_wp2_with fail
  refine (H2.out _).mono ?_
  rintro e w2 ⟨rfl, hb⟩
  have z2 : w.heap.size < w2.heap.size := by have := hb.size; omega
  have HB2 := hide (HB1.out.trans (hb.mono (by omega)))
  have d0 : w2.cell? ⟨w.heap.size, 0, none⟩ = some (.int .i64 b) := (hb.cell (by exact z1)).trans c0
  have d1 : w2.cell? ⟨w.heap.size, 1, none⟩ = some (.int .i64 r) := (hb.cell (by exact z1)).trans c1
  clear hb c0 c1
  go_wp2_with fail
  refine (lives_any _).mono ?_
  rintro e w3 ⟨rfl, hb⟩
  have z3 : w.heap.size < w3.heap.size := by have := hb.size; omega
  have HB3 := hide (HB2.out.trans (hb.mono (by omega)))
  have c0 : w3.cell? ⟨w.heap.size, 0, none⟩ = some (.int .i64 b) := (hb.cell (by exact z2)).trans d0
  have c1 : w3.cell? ⟨w.heap.size, 1, none⟩ = some (.int .i64 r) := (hb.cell (by exact z2)).trans d1
  clear hb d0 d1
  go_wp2
  go_ret
  exact ⟨by simp, HB3.out⟩

set_option maxHeartbeats 1000000 in
theorem same_d (b r x y A B E G : Int) (w : World) (hxy : x < y) (hx : feeN b r x = A ∧ feeE b r x = E) (hy : feeN b r y = B ∧ feeE b r y = G) (h0 : ¬ x < 0) (hE : (E != 0) = true) (hE0 : (E == 0) = false) (hG : G = E)
    (b2 : b ≤ 9223372036854775807) (x1 : -9223372036854775808 ≤ x) (x2 : x ≤ 9223372036854775807) (y1 : -9223372036854775808 ≤ y) (y2 : y ≤ 9223372036854775807) :
    Calls Try.prog 6 #[.agg #[.int .i64 b, .int .i64 r], .int .i64 y, .int .i64 x] w fun e w' => e = .returned (.bool true) ∧ Below w.heap.size w w' := by
  have H1 := hide (fun w => fee_any b r x w b2 x2)
  rw [hx.1, hx.2] at H1
  have H2 := hide (fun w => fee_any b r y w b2 y2)
  rw [hy.1, hy.2] at H2
  clear hx hy
  subst hG
  go_enter Try.func6, Try.ntmps6
  go_wp2_with fail
  refine (H1.out _).mono ?_
  rintro e w1 ⟨rfl, hb⟩
  have z1 : w.heap.size < w1.heap.size := by have := hb.size; simp at this; omega
  have HB1 := hide (((Below.refl w.heap.size w).alloc (Nat.le_refl _) _).trans (hb.mono (by simp)))
  have c0 : w1.cell? ⟨w.heap.size, 0, none⟩ = some (.int .i64 b) := (hb.cell (by simp)).trans (by simp)
  have c1 : w1.cell? ⟨w.heap.size, 1, none⟩ = some (.int .i64 r) := (hb.cell (by simp)).trans (by simp)
  clear hb
  go_wp2_with fail
  refine (H2.out _).mono ?_
  rintro e w2 ⟨rfl, hb⟩
  have z2 : w.heap.size < w2.heap.size := by have := hb.size; omega
  have HB2 := hide (HB1.out.trans (hb.mono (by omega)))
  have d0 : w2.cell? ⟨w.heap.size, 0, none⟩ = some (.int .i64 b) := (hb.cell (by exact z1)).trans c0
  have d1 : w2.cell? ⟨w.heap.size, 1, none⟩ = some (.int .i64 r) := (hb.cell (by exact z1)).trans c1
  clear hb c0 c1
  go_wp2_with fail
  refine (lives_any _).mono ?_
  rintro e w3 ⟨rfl, hb⟩
  have z3 : w.heap.size < w3.heap.size := by have := hb.size; omega
  have HB3 := hide (HB2.out.trans (hb.mono (by omega)))
  have c0 : w3.cell? ⟨w.heap.size, 0, none⟩ = some (.int .i64 b) := (hb.cell (by exact z2)).trans d0
  have c1 : w3.cell? ⟨w.heap.size, 1, none⟩ = some (.int .i64 r) := (hb.cell (by exact z2)).trans d1
  clear hb d0 d1
  go_wp2
  go_ret
  exact ⟨by simp, HB3.out⟩

set_option maxHeartbeats 1000000 in
theorem over_d (b r x y A B : Int) (w : World) (hxy : x < y) (hx : feeN b r x = A ∧ feeE b r x = 0) (hy : feeN b r y = B ∧ feeE b r y = 20) (h0 : ¬ x < 0)
    (b2 : b ≤ 9223372036854775807) (x1 : -9223372036854775808 ≤ x) (x2 : x ≤ 9223372036854775807) (y1 : -9223372036854775808 ≤ y) (y2 : y ≤ 9223372036854775807) :
    Calls Try.prog 6 #[.agg #[.int .i64 b, .int .i64 r], .int .i64 y, .int .i64 x] w fun e w' => e = .returned (.bool true) ∧ Below w.heap.size w w' := by
  have H1 := hide (fun w => fee_any b r x w b2 x2)
  rw [hx.1, hx.2] at H1
  have H2 := hide (fun w => fee_any b r y w b2 y2)
  rw [hy.1, hy.2] at H2
  clear hx hy
  go_enter Try.func6, Try.ntmps6
  go_wp2_with fail
  refine (H1.out _).mono ?_
  rintro e w1 ⟨rfl, hb⟩
  have z1 : w.heap.size < w1.heap.size := by have := hb.size; simp at this; omega
  have HB1 := hide (((Below.refl w.heap.size w).alloc (Nat.le_refl _) _).trans (hb.mono (by simp)))
  have c0 : w1.cell? ⟨w.heap.size, 0, none⟩ = some (.int .i64 b) := (hb.cell (by simp)).trans (by simp)
  have c1 : w1.cell? ⟨w.heap.size, 1, none⟩ = some (.int .i64 r) := (hb.cell (by simp)).trans (by simp)
  clear hb
  go_wp2_with fail
  refine (H2.out _).mono ?_
  rintro e w2 ⟨rfl, hb⟩
  have z2 : w.heap.size < w2.heap.size := by have := hb.size; omega
  have HB2 := hide (HB1.out.trans (hb.mono (by omega)))
  have d0 : w2.cell? ⟨w.heap.size, 0, none⟩ = some (.int .i64 b) := (hb.cell (by exact z1)).trans c0
  have d1 : w2.cell? ⟨w.heap.size, 1, none⟩ = some (.int .i64 r) := (hb.cell (by exact z1)).trans c1
  clear hb c0 c1
  go_wp2_with fail
  refine (lives_any _).mono ?_
  rintro e w3 ⟨rfl, hb⟩
  have z3 : w.heap.size < w3.heap.size := by have := hb.size; omega
  have HB3 := hide (HB2.out.trans (hb.mono (by omega)))
  have c0 : w3.cell? ⟨w.heap.size, 0, none⟩ = some (.int .i64 b) := (hb.cell (by exact z2)).trans d0
  have c1 : w3.cell? ⟨w.heap.size, 1, none⟩ = some (.int .i64 r) := (hb.cell (by exact z2)).trans d1
  clear hb d0 d1
  go_wp2
  go_ret
  exact ⟨by simp, HB3.out⟩

set_option maxHeartbeats 1000000 in
theorem ok_d (b r x y A B C D : Int) (w : World) (hxy : x < y) (hx : feeN b r x = A ∧ feeE b r x = 0) (hy : feeN b r y = B ∧ feeE b r y = 0) (hAB : A ≤ B) (hc : inN b r x = C ∧ inE b r x = 0) (hd : inN b r y = D ∧ inE b r y = 0) (hCD : C ≤ D)
    (b2 : b ≤ 9223372036854775807) (x1 : -9223372036854775808 ≤ x) (x2 : x ≤ 9223372036854775807) (y1 : -9223372036854775808 ≤ y) (y2 : y ≤ 9223372036854775807) :
    Calls Try.prog 6 #[.agg #[.int .i64 b, .int .i64 r], .int .i64 y, .int .i64 x] w fun e w' => e = .returned (.bool true) ∧ Below w.heap.size w w' := by
  have H1 := hide (fun w => fee_any b r x w b2 x2)
  rw [hx.1, hx.2] at H1
  have H2 := hide (fun w => fee_any b r y w b2 y2)
  rw [hy.1, hy.2] at H2
  have H3 := hide (fun w => in_any b r x w b2 x1 x2)
  rw [hc.1, hc.2] at H3
  have H4 := hide (fun w => in_any b r y w b2 y1 y2)
  rw [hd.1, hd.2] at H4
  clear hc hd
  clear hx hy
  go_enter Try.func6, Try.ntmps6
  go_wp2_with fail
  refine (H1.out _).mono ?_
  rintro e w1 ⟨rfl, hb⟩
  have z1 : w.heap.size < w1.heap.size := by have := hb.size; simp at this; omega
  have HB1 := hide (((Below.refl w.heap.size w).alloc (Nat.le_refl _) _).trans (hb.mono (by simp)))
  have c0 : w1.cell? ⟨w.heap.size, 0, none⟩ = some (.int .i64 b) := (hb.cell (by simp)).trans (by simp)
  have c1 : w1.cell? ⟨w.heap.size, 1, none⟩ = some (.int .i64 r) := (hb.cell (by simp)).trans (by simp)
  clear hb
  go_wp2_with fail
  refine (H2.out _).mono ?_
  rintro e w2 ⟨rfl, hb⟩
  have z2 : w.heap.size < w2.heap.size := by have := hb.size; omega
  have HB2 := hide (HB1.out.trans (hb.mono (by omega)))
  have d0 : w2.cell? ⟨w.heap.size, 0, none⟩ = some (.int .i64 b) := (hb.cell (by exact z1)).trans c0
  have d1 : w2.cell? ⟨w.heap.size, 1, none⟩ = some (.int .i64 r) := (hb.cell (by exact z1)).trans c1
  clear hb c0 c1
  go_wp2_with fail
  refine (lives_any _).mono ?_
  rintro e w3 ⟨rfl, hb⟩
  have z3 : w.heap.size < w3.heap.size := by have := hb.size; omega
  have HB3 := hide (HB2.out.trans (hb.mono (by omega)))
  have c0 : w3.cell? ⟨w.heap.size, 0, none⟩ = some (.int .i64 b) := (hb.cell (by exact z2)).trans d0
  have c1 : w3.cell? ⟨w.heap.size, 1, none⟩ = some (.int .i64 r) := (hb.cell (by exact z2)).trans d1
  clear hb d0 d1
  go_wp2_with fail
  refine (H3.out _).mono ?_
  rintro e w4 ⟨rfl, hb⟩
  have z4 : w.heap.size < w4.heap.size := by have := hb.size; omega
  have HB4 := hide (HB3.out.trans (hb.mono (by omega)))
  have d0 : w4.cell? ⟨w.heap.size, 0, none⟩ = some (.int .i64 b) := (hb.cell (by exact z3)).trans c0
  have d1 : w4.cell? ⟨w.heap.size, 1, none⟩ = some (.int .i64 r) := (hb.cell (by exact z3)).trans c1
  clear hb c0 c1
  go_wp2_with fail
  refine (H4.out _).mono ?_
  rintro e w5 ⟨rfl, hb⟩
  have HB5 := hide (HB4.out.trans (hb.mono (by omega)))
  clear hb
  go_wp2
  go_ret
  exact ⟨by simp, HB5.out⟩

set_option maxHeartbeats 1000000 in
theorem half_d (b r x y A B C D : Int) (w : World) (hxy : x < y) (hx : feeN b r x = A ∧ feeE b r x = 0) (hy : feeN b r y = B ∧ feeE b r y = 0) (hAB : A ≤ B) (hc : inN b r x = C ∧ inE b r x = 0) (hd : inN b r y = D ∧ inE b r y = 20) 
    (b2 : b ≤ 9223372036854775807) (x1 : -9223372036854775808 ≤ x) (x2 : x ≤ 9223372036854775807) (y1 : -9223372036854775808 ≤ y) (y2 : y ≤ 9223372036854775807) :
    Calls Try.prog 6 #[.agg #[.int .i64 b, .int .i64 r], .int .i64 y, .int .i64 x] w fun e w' => e = .returned (.bool true) ∧ Below w.heap.size w w' := by
  have H1 := hide (fun w => fee_any b r x w b2 x2)
  rw [hx.1, hx.2] at H1
  have H2 := hide (fun w => fee_any b r y w b2 y2)
  rw [hy.1, hy.2] at H2
  have H3 := hide (fun w => in_any b r x w b2 x1 x2)
  rw [hc.1, hc.2] at H3
  have H4 := hide (fun w => in_any b r y w b2 y1 y2)
  rw [hd.1, hd.2] at H4
  clear hc hd
  clear hx hy
  go_enter Try.func6, Try.ntmps6
  go_wp2_with fail
  refine (H1.out _).mono ?_
  rintro e w1 ⟨rfl, hb⟩
  have z1 : w.heap.size < w1.heap.size := by have := hb.size; simp at this; omega
  have HB1 := hide (((Below.refl w.heap.size w).alloc (Nat.le_refl _) _).trans (hb.mono (by simp)))
  have c0 : w1.cell? ⟨w.heap.size, 0, none⟩ = some (.int .i64 b) := (hb.cell (by simp)).trans (by simp)
  have c1 : w1.cell? ⟨w.heap.size, 1, none⟩ = some (.int .i64 r) := (hb.cell (by simp)).trans (by simp)
  clear hb
  go_wp2_with fail
  refine (H2.out _).mono ?_
  rintro e w2 ⟨rfl, hb⟩
  have z2 : w.heap.size < w2.heap.size := by have := hb.size; omega
  have HB2 := hide (HB1.out.trans (hb.mono (by omega)))
  have d0 : w2.cell? ⟨w.heap.size, 0, none⟩ = some (.int .i64 b) := (hb.cell (by exact z1)).trans c0
  have d1 : w2.cell? ⟨w.heap.size, 1, none⟩ = some (.int .i64 r) := (hb.cell (by exact z1)).trans c1
  clear hb c0 c1
  go_wp2_with fail
  refine (lives_any _).mono ?_
  rintro e w3 ⟨rfl, hb⟩
  have z3 : w.heap.size < w3.heap.size := by have := hb.size; omega
  have HB3 := hide (HB2.out.trans (hb.mono (by omega)))
  have c0 : w3.cell? ⟨w.heap.size, 0, none⟩ = some (.int .i64 b) := (hb.cell (by exact z2)).trans d0
  have c1 : w3.cell? ⟨w.heap.size, 1, none⟩ = some (.int .i64 r) := (hb.cell (by exact z2)).trans d1
  clear hb d0 d1
  go_wp2_with fail
  refine (H3.out _).mono ?_
  rintro e w4 ⟨rfl, hb⟩
  have z4 : w.heap.size < w4.heap.size := by have := hb.size; omega
  have HB4 := hide (HB3.out.trans (hb.mono (by omega)))
  have d0 : w4.cell? ⟨w.heap.size, 0, none⟩ = some (.int .i64 b) := (hb.cell (by exact z3)).trans c0
  have d1 : w4.cell? ⟨w.heap.size, 1, none⟩ = some (.int .i64 r) := (hb.cell (by exact z3)).trans c1
  clear hb c0 c1
  go_wp2_with fail
  refine (H4.out _).mono ?_
  rintro e w5 ⟨rfl, hb⟩
  have HB5 := hide (HB4.out.trans (hb.mono (by omega)))
  clear hb
  go_wp2
  go_ret
  exact ⟨by simp, HB5.out⟩

set_option maxHeartbeats 1000000 in
theorem none_d (b r x y A B C D : Int) (w : World) (hxy : x < y) (hx : feeN b r x = A ∧ feeE b r x = 0) (hy : feeN b r y = B ∧ feeE b r y = 0) (hAB : A ≤ B) (hc : inN b r x = C ∧ inE b r x = 20) (hd : inN b r y = D ∧ inE b r y = 20) 
    (b2 : b ≤ 9223372036854775807) (x1 : -9223372036854775808 ≤ x) (x2 : x ≤ 9223372036854775807) (y1 : -9223372036854775808 ≤ y) (y2 : y ≤ 9223372036854775807) :
    Calls Try.prog 6 #[.agg #[.int .i64 b, .int .i64 r], .int .i64 y, .int .i64 x] w fun e w' => e = .returned (.bool true) ∧ Below w.heap.size w w' := by
  have H1 := hide (fun w => fee_any b r x w b2 x2)
  rw [hx.1, hx.2] at H1
  have H2 := hide (fun w => fee_any b r y w b2 y2)
  rw [hy.1, hy.2] at H2
  have H3 := hide (fun w => in_any b r x w b2 x1 x2)
  rw [hc.1, hc.2] at H3
  have H4 := hide (fun w => in_any b r y w b2 y1 y2)
  rw [hd.1, hd.2] at H4
  clear hc hd
  clear hx hy
  go_enter Try.func6, Try.ntmps6
  go_wp2_with fail
  refine (H1.out _).mono ?_
  rintro e w1 ⟨rfl, hb⟩
  have z1 : w.heap.size < w1.heap.size := by have := hb.size; simp at this; omega
  have HB1 := hide (((Below.refl w.heap.size w).alloc (Nat.le_refl _) _).trans (hb.mono (by simp)))
  have c0 : w1.cell? ⟨w.heap.size, 0, none⟩ = some (.int .i64 b) := (hb.cell (by simp)).trans (by simp)
  have c1 : w1.cell? ⟨w.heap.size, 1, none⟩ = some (.int .i64 r) := (hb.cell (by simp)).trans (by simp)
  clear hb
  go_wp2_with fail
  refine (H2.out _).mono ?_
  rintro e w2 ⟨rfl, hb⟩
  have z2 : w.heap.size < w2.heap.size := by have := hb.size; omega
  have HB2 := hide (HB1.out.trans (hb.mono (by omega)))
  have d0 : w2.cell? ⟨w.heap.size, 0, none⟩ = some (.int .i64 b) := (hb.cell (by exact z1)).trans c0
  have d1 : w2.cell? ⟨w.heap.size, 1, none⟩ = some (.int .i64 r) := (hb.cell (by exact z1)).trans c1
  clear hb c0 c1
  go_wp2_with fail
  refine (lives_any _).mono ?_
  rintro e w3 ⟨rfl, hb⟩
  have z3 : w.heap.size < w3.heap.size := by have := hb.size; omega
  have HB3 := hide (HB2.out.trans (hb.mono (by omega)))
  have c0 : w3.cell? ⟨w.heap.size, 0, none⟩ = some (.int .i64 b) := (hb.cell (by exact z2)).trans d0
  have c1 : w3.cell? ⟨w.heap.size, 1, none⟩ = some (.int .i64 r) := (hb.cell (by exact z2)).trans d1
  clear hb d0 d1
  go_wp2_with fail
  refine (H3.out _).mono ?_
  rintro e w4 ⟨rfl, hb⟩
  have z4 : w.heap.size < w4.heap.size := by have := hb.size; omega
  have HB4 := hide (HB3.out.trans (hb.mono (by omega)))
  have d0 : w4.cell? ⟨w.heap.size, 0, none⟩ = some (.int .i64 b) := (hb.cell (by exact z3)).trans c0
  have d1 : w4.cell? ⟨w.heap.size, 1, none⟩ = some (.int .i64 r) := (hb.cell (by exact z3)).trans c1
  clear hb c0 c1
  go_wp2_with fail
  refine (H4.out _).mono ?_
  rintro e w5 ⟨rfl, hb⟩
  have HB5 := hide (HB4.out.trans (hb.mono (by omega)))
  clear hb
  go_wp2
  go_ret
  exact ⟨by simp, HB5.out⟩

theorem part_mono (x y r : Int) (h : x ≤ y) (hr : 0 ≤ r) : x * r / 1000000 ≤ y * r / 1000000 :=
  Int.ediv_le_ediv (by omega) (Int.mul_le_mul_of_nonneg_right h hr)

theorem all_u (b r x y : Int) (w : World) (hxy : x ≤ y) (b2 : b ≤ 9223372036854775807) (x1 : -9223372036854775808 ≤ x) (x2 : x ≤ 9223372036854775807) (y1 : -9223372036854775808 ≤ y) (y2 : y ≤ 9223372036854775807) :
    Calls Try.prog 6 #[.agg #[.int .i64 b, .int .i64 r], .int .i64 x, .int .i64 y] w fun e w' => e = .returned (.bool true) ∧ Below w.heap.size w w' := by
  by_cases hR : rightB b r = true
  · have hr : 0 ≤ b ∧ 0 ≤ r ∧ r ≤ 1000000 := of_decide_eq_true hR
    by_cases hx : x < 0
    · have hf := fee_no b r x (by omega)
      exact neg_u b r x y 0 _ 1 _ w hxy ⟨hf.1, hf.2.1⟩ ⟨rfl, rfl⟩ hx (by decide) b2 x1 x2 y1 y2
    · have px := part_le x r (by omega) hr.2.1 hr.2.2
      have py := part_le y r (by omega) hr.2.1 hr.2.2
      have pm := part_mono x y r (by omega) hr.2.1
      have fx : ∀ N E, addN b (x * r / 1000000) = N ∧ addE b (x * r / 1000000) = E → feeN b r x = N ∧ feeE b r x = E := fun N E h => by
        unfold feeN feeE; rw [if_pos ⟨hR, by omega⟩, if_pos ⟨hR, by omega⟩]; exact h
      have fy : ∀ N E, addN b (y * r / 1000000) = N ∧ addE b (y * r / 1000000) = E → feeN b r y = N ∧ feeE b r y = E := fun N E h => by
        unfold feeN feeE; rw [if_pos ⟨hR, by omega⟩, if_pos ⟨hR, by omega⟩]; exact h
      have ix : x + (b + x * r / 1000000) ≤ 9223372036854775807 → inN b r x = x + (b + x * r / 1000000) ∧ inE b r x = 0 := fun h => (in_ok b r x hR (by omega) h px.1).2.2
      have iy : y + (b + y * r / 1000000) ≤ 9223372036854775807 → inN b r y = y + (b + y * r / 1000000) ∧ inE b r y = 0 := fun h => (in_ok b r y hR (by omega) h py.1).2.2
      have ox : 9223372036854775807 < x + (b + x * r / 1000000) → inN b r x = 0 ∧ inE b r x = 20 := fun h => in_no b r x hR (by omega) h px.1
      have oy : 9223372036854775807 < y + (b + y * r / 1000000) → inN b r y = 0 ∧ inE b r y = 20 := fun h => in_no b r y hR (by omega) h py.1
      generalize x * r / 1000000 = X at *
      generalize y * r / 1000000 = Y at *
      by_cases c1 : b + X ≤ 9223372036854775807
      · have gx := fx _ _ (show addN b X = b + X ∧ addE b X = 0 by unfold addN addE; rw [if_neg (by omega), if_neg (by omega), if_neg (by omega), if_neg (by omega)]; exact ⟨rfl, rfl⟩)
        by_cases c2 : b + Y ≤ 9223372036854775807
        · have gy := fy _ _ (show addN b Y = b + Y ∧ addE b Y = 0 by unfold addN addE; rw [if_neg (by omega), if_neg (by omega), if_neg (by omega), if_neg (by omega)]; exact ⟨rfl, rfl⟩)
          by_cases c3 : x + (b + X) ≤ 9223372036854775807
          · by_cases c4 : y + (b + Y) ≤ 9223372036854775807
            · exact ok_u b r x y _ _ _ _ w hxy gx gy (by omega) (ix c3) (iy c4) (by omega) b2 x1 x2 y1 y2
            · exact half_u b r x y _ _ _ _ w hxy gx gy (by omega) (ix c3) (oy (by omega)) b2 x1 x2 y1 y2
          · exact none_u b r x y _ _ _ _ w hxy gx gy (by omega) (ox (by omega)) (oy (by omega)) b2 x1 x2 y1 y2
        · have gy := fy _ _ (show addN b Y = 0 ∧ addE b Y = 20 by unfold addN addE; rw [if_neg (by omega), if_pos (by omega), if_neg (by omega), if_pos (by omega)]; exact ⟨rfl, rfl⟩)
          exact over_u b r x y _ _ w hxy gx gy hx b2 x1 x2 y1 y2
      · have gx := fx _ _ (show addN b X = 0 ∧ addE b X = 20 by unfold addN addE; rw [if_neg (by omega), if_pos (by omega), if_neg (by omega), if_pos (by omega)]; exact ⟨rfl, rfl⟩)
        have gy := fy _ _ (show addN b Y = 0 ∧ addE b Y = 20 by unfold addN addE; rw [if_neg (by omega), if_pos (by omega), if_neg (by omega), if_pos (by omega)]; exact ⟨rfl, rfl⟩)
        exact same_u b r x y _ _ 20 20 w hxy gx gy hx (by decide) (by decide) rfl b2 x1 x2 y1 y2
  · have hf := fee_no b r x (fun h => hR h.1)
    have hg := fee_no b r y (fun h => hR h.1)
    by_cases hx : x < 0
    · exact neg_u b r x y 0 0 1 1 w hxy ⟨hf.1, hf.2.1⟩ ⟨hg.1, hg.2.1⟩ hx (by decide) b2 x1 x2 y1 y2
    · exact same_u b r x y 0 0 1 1 w hxy ⟨hf.1, hf.2.1⟩ ⟨hg.1, hg.2.1⟩ hx (by decide) (by decide) rfl b2 x1 x2 y1 y2

theorem all_d (b r x y : Int) (w : World) (hxy : x < y) (b2 : b ≤ 9223372036854775807) (x1 : -9223372036854775808 ≤ x) (x2 : x ≤ 9223372036854775807) (y1 : -9223372036854775808 ≤ y) (y2 : y ≤ 9223372036854775807) :
    Calls Try.prog 6 #[.agg #[.int .i64 b, .int .i64 r], .int .i64 y, .int .i64 x] w fun e w' => e = .returned (.bool true) ∧ Below w.heap.size w w' := by
  by_cases hR : rightB b r = true
  · have hr : 0 ≤ b ∧ 0 ≤ r ∧ r ≤ 1000000 := of_decide_eq_true hR
    by_cases hx : x < 0
    · have hf := fee_no b r x (by omega)
      exact neg_d b r x y 0 _ 1 _ w hxy ⟨hf.1, hf.2.1⟩ ⟨rfl, rfl⟩ hx (by decide) b2 x1 x2 y1 y2
    · have px := part_le x r (by omega) hr.2.1 hr.2.2
      have py := part_le y r (by omega) hr.2.1 hr.2.2
      have pm := part_mono x y r (by omega) hr.2.1
      have fx : ∀ N E, addN b (x * r / 1000000) = N ∧ addE b (x * r / 1000000) = E → feeN b r x = N ∧ feeE b r x = E := fun N E h => by
        unfold feeN feeE; rw [if_pos ⟨hR, by omega⟩, if_pos ⟨hR, by omega⟩]; exact h
      have fy : ∀ N E, addN b (y * r / 1000000) = N ∧ addE b (y * r / 1000000) = E → feeN b r y = N ∧ feeE b r y = E := fun N E h => by
        unfold feeN feeE; rw [if_pos ⟨hR, by omega⟩, if_pos ⟨hR, by omega⟩]; exact h
      have ix : x + (b + x * r / 1000000) ≤ 9223372036854775807 → inN b r x = x + (b + x * r / 1000000) ∧ inE b r x = 0 := fun h => (in_ok b r x hR (by omega) h px.1).2.2
      have iy : y + (b + y * r / 1000000) ≤ 9223372036854775807 → inN b r y = y + (b + y * r / 1000000) ∧ inE b r y = 0 := fun h => (in_ok b r y hR (by omega) h py.1).2.2
      have ox : 9223372036854775807 < x + (b + x * r / 1000000) → inN b r x = 0 ∧ inE b r x = 20 := fun h => in_no b r x hR (by omega) h px.1
      have oy : 9223372036854775807 < y + (b + y * r / 1000000) → inN b r y = 0 ∧ inE b r y = 20 := fun h => in_no b r y hR (by omega) h py.1
      generalize x * r / 1000000 = X at *
      generalize y * r / 1000000 = Y at *
      by_cases c1 : b + X ≤ 9223372036854775807
      · have gx := fx _ _ (show addN b X = b + X ∧ addE b X = 0 by unfold addN addE; rw [if_neg (by omega), if_neg (by omega), if_neg (by omega), if_neg (by omega)]; exact ⟨rfl, rfl⟩)
        by_cases c2 : b + Y ≤ 9223372036854775807
        · have gy := fy _ _ (show addN b Y = b + Y ∧ addE b Y = 0 by unfold addN addE; rw [if_neg (by omega), if_neg (by omega), if_neg (by omega), if_neg (by omega)]; exact ⟨rfl, rfl⟩)
          by_cases c3 : x + (b + X) ≤ 9223372036854775807
          · by_cases c4 : y + (b + Y) ≤ 9223372036854775807
            · exact ok_d b r x y _ _ _ _ w hxy gx gy (by omega) (ix c3) (iy c4) (by omega) b2 x1 x2 y1 y2
            · exact half_d b r x y _ _ _ _ w hxy gx gy (by omega) (ix c3) (oy (by omega)) b2 x1 x2 y1 y2
          · exact none_d b r x y _ _ _ _ w hxy gx gy (by omega) (ox (by omega)) (oy (by omega)) b2 x1 x2 y1 y2
        · have gy := fy _ _ (show addN b Y = 0 ∧ addE b Y = 20 by unfold addN addE; rw [if_neg (by omega), if_pos (by omega), if_neg (by omega), if_pos (by omega)]; exact ⟨rfl, rfl⟩)
          exact over_d b r x y _ _ w hxy gx gy hx b2 x1 x2 y1 y2
      · have gx := fx _ _ (show addN b X = 0 ∧ addE b X = 20 by unfold addN addE; rw [if_neg (by omega), if_pos (by omega), if_neg (by omega), if_pos (by omega)]; exact ⟨rfl, rfl⟩)
        have gy := fy _ _ (show addN b Y = 0 ∧ addE b Y = 20 by unfold addN addE; rw [if_neg (by omega), if_pos (by omega), if_neg (by omega), if_pos (by omega)]; exact ⟨rfl, rfl⟩)
        exact same_d b r x y _ _ 20 20 w hxy gx gy hx (by decide) (by decide) rfl b2 x1 x2 y1 y2
  · have hf := fee_no b r x (fun h => hR h.1)
    have hg := fee_no b r y (fun h => hR h.1)
    by_cases hx : x < 0
    · exact neg_d b r x y 0 0 1 1 w hxy ⟨hf.1, hf.2.1⟩ ⟨hg.1, hg.2.1⟩ hx (by decide) b2 x1 x2 y1 y2
    · exact same_d b r x y 0 0 1 1 w hxy ⟨hf.1, hf.2.1⟩ ⟨hg.1, hg.2.1⟩ hx (by decide) (by decide) rfl b2 x1 x2 y1 y2

theorem walk (b r x y : Int) (w : World) (w0 : (Lit.int .i64 b).wf = true) (w1 : (Lit.int .i64 r).wf = true) (w2 : (Lit.int .i64 x).wf = true) (w3 : (Lit.int .i64 y).wf = true) :
    Calls Try.prog 6 #[.agg #[.int .i64 b, .int .i64 r], .int .i64 x, .int .i64 y] w fun e w' => e = .returned (.bool true) ∧ Below w.heap.size w w' := by
  obtain ⟨b1, b2⟩ := bounds_i64 w0
  obtain ⟨x1, x2⟩ := bounds_i64 w2
  obtain ⟨y1, y2⟩ := bounds_i64 w3
  by_cases h : x ≤ y
  · exact all_u b r x y w h b2 x1 x2 y1 y2
  · exact all_d b r y x w (by omega) b2 y1 y2 x1 x2

theorem own : ownKnob Try.prog.godebug = none := by kernel_rfl
theorem laidOut : laidOutB Try.prog = true := by kernel_rfl
theorem cellsFees : Try.prog.cellsOf 26 = 2 := by kernel_rfl

set_option maxRecDepth 100000 in
theorem lifted (os : Os) (started : os.Started) (H : Type) (enc : TypeId × Value → H) :
    ReturnsInHanded {} Try.checked os 6 .any (Rows.amountRisesSpec.pre6 enc Try.prog Try.f6 Rows.amountRisesRow.domain false) (Rows.amountRisesSpec.post enc Try.prog Try.f6 false true false false) := by
  refine returnsInHanded_of_change (C := Try.checked) own started (by kernel_rfl) Try.func6
    (ChangeSpec.witness6 (enc := enc) (C := Try.checked) false ⟨#[], #[.agg #[.int .i64 0, .int .i64 0], .int .i64 0, .int .i64 0], []⟩ 8 (by kernel_rfl) (by kernel_rfl) (by kernel_rfl) (by kernel_rfl)) ?_
  intro W base args ds gs before hval0 hW hcnd _
  have hval : ∀ (j : Nat) t v, Try.f6.params[j]? = some t → args[j]? = some v → Value.okWide Try.prog W .any base t v := hval0
  have hW' := hW
  obtain ⟨p, q, hA0, hV, rfl, hfz, hnd⟩ := hW
  have hA : DataW.TrodAll enc Try.prog W 0 (fun _ => true) true Try.f6.params.toList args.toList ds p := hA0
  rw [Try.params6] at hA hval
  obtain ⟨v0, vs0, d0, ds0, p0, q0, hargs, rfl, rfl, h0, r0⟩ := trodAll_cons hA
  obtain ⟨v1, vs1, d1, ds1, p1, q1, rfl, rfl, rfl, h1, r1⟩ := trodAll_cons r0
  obtain ⟨v2, vs2, d2, ds2, p2, q2, rfl, rfl, rfl, h2, r2⟩ := trodAll_cons r1
  obtain ⟨rfl, rfl, rfl⟩ := trodAll_nil r2
  obtain rfl : args = #[v0, v1, v2] := by cases args; simp_all
  obtain ⟨rfl, rfl⟩ := trodVars_none hV
  have k0 := h0
  have lt0 : ∀ x ∈ p0, x.block < W.heap.size := by obtain ⟨m, hm⟩ := k0; exact DataW.trod_lt m _ _ _ hm
  have k1 := h1
  have lt1 : ∀ x ∈ p1, x.block < W.heap.size := by obtain ⟨m, hm⟩ := k1; exact DataW.trod_lt m _ _ _ hm
  have k2 := h2
  have lt2 : ∀ x ∈ p2, x.block < W.heap.size := by obtain ⟨m, hm⟩ := k2; exact DataW.trod_lt m _ _ _ hm
  obtain ⟨c00, c01, y00, y01, m0, rfl, rfl, rfl, hy00, hy01⟩ := open_agg2 Try.underlying26 (by kernel_rfl) cellsFees (hval 0 26 v0 rfl rfl) h0
  obtain ⟨b0, eb0, rfl, wb0⟩ := DataW.trod_int Try.underlying3 hy00
  obtain ⟨f0, ef0, rfl, wf0⟩ := DataW.trod_int Try.underlying3 hy01
  simp at eb0 ef0
  subst eb0 ef0
  obtain ⟨a1, rfl, rfl, rfl, w1⟩ := open_int Try.underlying3 (hval 1 3 v1 rfl rfl) h1
  obtain ⟨a2, rfl, rfl, rfl, w2⟩ := open_int Try.underlying3 (hval 2 3 v2 rfl rfl) h2
  clear hA0 hval0
  refine (walk b0 f0 a1 a2 W wb0 wf0 w1 w2).mono fun e W' ⟨he, bel⟩ => ?_
  subst he
  exact ⟨_, rfl, _, _, _, [], _, [], hW', trodAll_mk1 (shut_bool Try.underlying4 _), (trodAll_cons_mk (Below.trod laidOut (by kernel_rfl) (of_decide_eq_true (by kernel_rfl)) k0 bel lt0) (trodAll_cons_mk (Below.trod laidOut (by kernel_rfl) (of_decide_eq_true (by kernel_rfl)) k1 bel lt1) (trodAll_cons_mk (Below.trod laidOut (by kernel_rfl) (of_decide_eq_true (by kernel_rfl)) k2 bel lt2) trodAll_mk0))), rfl, bel.frame _, fun h => by cases h⟩

theorem over : Rows.amountRisesRow.holds Try.pinned (OpenSpec.ofChange Rows.amountRisesSpec) :=
  OpenClaim.holds_of_wide 6 Try.f6 rfl rfl rfl rfl rfl rfl rfl ⟨rfl, rfl, rfl, rfl, rfl⟩ rfl rfl rfl rfl rfl (by kernel_rfl) Try.func6 (by kernel_rfl)
    (of_decide_eq_true (by kernel_rfl)) (by unfold Func.isWrapper; first | (rw [if_pos (by decide +kernel)]; kernel_rfl) | (rw [if_neg (by decide +kernel)]; exact ⟨rfl, rfl⟩))
    (fun os started H enc _ => lifted os started H enc)

theorem proved : Rows.AmountRisesSaid := over
end Go.Proofs.Ytclimopeejkdbac.amountRises
namespace Go.Proofs.Ytclimopeejkdbac
theorem amountRises_holds : Rows.AmountRisesSaid := amountRises.proved
end Go.Proofs.Ytclimopeejkdbac
