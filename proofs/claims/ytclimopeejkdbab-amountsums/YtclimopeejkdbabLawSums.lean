/- Proved: for all two ints and every slice of ints the statement AmountSums (P2.1: sums and differences of any numbers are what the document asks) returns true over the code at the commit, and changes none of its arguments. No condition. -/
import Derived.Test.YtclimopeejkdbabRows
import Derived.Test.YtclimopeejkdbabAmtLives
import Derived.Test.YtclimopeejkdbabAmtSum
import Derived.Test.YtclimopeejkdbabRefAmt
import Derived.WalkKit
import Derived.ProofKit
import Derived.OpenShut
import Derived.SizedLaws
namespace Go.Proofs.Ytclimopeejkdbab.amountSums
open Go.ChangeShapes Go.WideShapes Go.ChangeAt Go.RowKit
set_option linter.unusedVariables false

/-- a slice of numbers that came in: nil, or a row of cells -/
def IsRow (k : IntKind) (size : Nat) (w : World) (a : Option Addr) (len cap : Nat) (zs : List Int) : Prop :=
  (a = none ∧ len = 0 ∧ cap = 0 ∧ zs = []) ∨
  ∃ x, a = some x ∧ len ≤ cap ∧ cap ≤ maxLen ∧ zs.length = cap ∧ cap * size ≤ 140737488351232 ∧ (∀ i, i < zs.length → w.cell? (x.add i) = some (.int k (zs.getD i 0))) ∧ ∀ n ∈ zs, (Lit.int k n).wf = true

theorem addr_add (b o k : Nat) : (⟨b, o, none⟩ : Addr).add k = ⟨b, o + k, none⟩ := by unfold Addr.add; split <;> simp_all
theorem sum_neg (z : Nat → Int) (n : Nat) (h : nnB z n = false) : sumN z n = 0 ∧ sumE z n = 1 := by
  unfold sumN sumE
  rw [h]
  exact ⟨rfl, rfl⟩
theorem sum_ok (z : Nat → Int) (n : Nat) (h : nnB z n = true) (hs : sumP z n ≤ 9223372036854775807) : sumN z n = sumP z n ∧ sumE z n = 0 := by
  unfold sumN sumE
  rw [if_pos h, if_pos h, if_pos hs, if_pos hs]
  exact ⟨rfl, rfl⟩
theorem sum_over (z : Nat → Int) (n : Nat) (h : nnB z n = true) (hs : ¬ sumP z n ≤ 9223372036854775807) : sumN z n = 0 ∧ sumE z n = 20 := by
  unfold sumN sumE
  rw [if_pos h, if_pos h, if_neg hs, if_neg hs]
  exact ⟨rfl, rfl⟩
/-- 1 once a number is below 0 -/
def errI (z : Nat → Int) (n : Nat) : Int := if nnB z n = true then 0 else 1
theorem err_succ_neg (z : Nat → Int) (k : Nat) (h : z k < 0) : errI z (k + 1) = 1 := by
  unfold errI
  rw [if_neg]
  intro hh
  have := of_decide_eq_true hh k (by omega)
  omega
theorem err_succ (z : Nat → Int) (k : Nat) (h : 0 ≤ z k) : errI z (k + 1) = errI z k := by
  unfold errI
  have e : nnB z (k + 1) = nnB z k := by
    cases hq : nnB z k
    · refine decide_eq_false fun hh => ?_
      have : nnB z k = true := decide_eq_true fun j hj => hh j (by omega)
      rw [hq] at this
      exact absurd this (by decide)
    · refine decide_eq_true fun j hj => ?_
      by_cases e : j = k
      · subst e; exact h
      · exact of_decide_eq_true hq j (by omega)
  rw [e]

set_option maxHeartbeats 2000000 in
theorem none_a (a b : Int) (ao : Option Addr) (cap : Nat) (w : World) (a1 : -9223372036854775808 ≤ a) (a2 : a ≤ 9223372036854775807) (b1 : -9223372036854775808 ≤ b) (b2 : b ≤ 9223372036854775807) (hc : a < 0) (hsub : subN a b = 0 ∧ subE a b = 1) :
    Calls Try.prog 5 #[.int .i64 a, .int .i64 b, .slice ao 0 cap] w fun e w' => e = .returned (.bool true) ∧ Below w.heap.size w w' := by
  have H4 := hide (fun w => sum_none ao cap (fun _ => 0) w)
  have hs := sum_ok (fun _ => 0) 0 (decide_eq_true fun j hj => absurd hj (Nat.not_lt_zero _)) (by show (0 : Int) ≤ _; omega)
  rw [hs.1, hs.2] at H4
  clear hs
  have H1 := hide (fun w => add_any a b w a1 a2 b1 b2)
  have H2 := hide (fun w => radd_any a b w a1 a2 b1 b2)
  have H3 := hide (fun w => sub_any a b w a1 a2 b1 b2)
  rw [hsub.1, hsub.2] at H3
  clear hsub
  generalize addN a b = A at H1 H2
  generalize addE a b = E at H1 H2
  go_enter Try.func5, Try.ntmps5
  go_wp2_with fail
  refine (H1.out _).mono ?_
  rintro e w1 ⟨rfl, hb⟩
  have HB1 := hide hb
  have z1 := hb.size
  clear hb
  go_wp2_with fail
  refine (H2.out _).mono ?_
  rintro e w2 ⟨rfl, rfl⟩
  go_wp2_with fail
  refine (lives_any _).mono ?_
  rintro e w3 ⟨rfl, hb⟩
  have HB3 := hide (HB1.out.trans (hb.mono (by omega)))
  have z3 := hb.size
  clear hb
  go_wp2_with fail
  refine (H3.out _).mono ?_
  rintro e w4 ⟨rfl, hb⟩
  have HB4 := hide (HB3.out.trans (hb.mono (by omega)))
  have z4 := hb.size
  clear hb H1 H2 H3
  go_wp2
  refine wp_loop_rounds 1 ?_
  rw [rounds_succ]
  go_wp2
  refine wp_loop_rounds 1 ?_
  rw [rounds_succ]
  go_wp2_with fail
  refine (H4.out _).mono ?_
  rintro e w5 ⟨rfl, hb⟩
  have HB5 := hide (HB4.out.trans (hb.mono (by omega)))
  clear hb
  go_wp2
  go_ret
  exact ⟨rfl, HB5.out⟩

set_option maxHeartbeats 4000000 in
theorem row_a (a b : Int) (bl off len cap : Nat) (z : Nat → Int) (w : World) (a1 : -9223372036854775808 ≤ a) (a2 : a ≤ 9223372036854775807) (b1 : -9223372036854775808 ≤ b) (b2 : b ≤ 9223372036854775807) (hc : a < 0) (hsub : subN a b = 0 ∧ subE a b = 1)
    (hl : len ≤ 17592186043904) (hbl : bl < w.heap.size) (hcl : Hid (∀ k, k < len → w.cell? ⟨bl, off + k, none⟩ = some (.int .i64 (z k)))) (hlo : Hid (∀ k, k < len → -9223372036854775808 ≤ z k)) (hhi : Hid (∀ k, k < len → z k ≤ 9223372036854775807)) :
    Calls Try.prog 5 #[.int .i64 a, .int .i64 b, .slice (some ⟨bl, off, none⟩) len cap] w fun e w' => e = .returned (.bool true) ∧ Below w.heap.size w w' := by
  have H4 := hide (fun w (h1 : bl < w.heap.size) h2 => sum_row bl off len cap z w (by omega) h1 h2 hhi.out)
  have H1 := hide (fun w => add_any a b w a1 a2 b1 b2)
  have H2 := hide (fun w => radd_any a b w a1 a2 b1 b2)
  have H3 := hide (fun w => sub_any a b w a1 a2 b1 b2)
  rw [hsub.1, hsub.2] at H3
  clear hsub
  generalize addN a b = A at H1 H2
  generalize addE a b = E at H1 H2
  go_enter Try.func5, Try.ntmps5
  go_wp2_with fail
  refine (H1.out _).mono ?_
  rintro e w1 ⟨rfl, hb⟩
  have HB1 := hide hb
  have z1 := hb.size
  clear hb
  go_wp2_with fail
  refine (H2.out _).mono ?_
  rintro e w2 ⟨rfl, rfl⟩
  go_wp2_with fail
  refine (lives_any _).mono ?_
  rintro e w3 ⟨rfl, hb⟩
  have HB3 := hide (HB1.out.trans (hb.mono (by omega)))
  have z3 := hb.size
  clear hb
  go_wp2_with fail
  refine (H3.out _).mono ?_
  rintro e w4 ⟨rfl, hb⟩
  have HB4 := hide (HB3.out.trans (hb.mono (by omega)))
  have z4 := hb.size
  clear hb H1 H2 H3
  go_wp2
  have hc4 := hide (fun k (hk : k < len) => (HB4.out.cell (p := ⟨bl, off + k, none⟩) (by exact hbl)).trans (hcl.out k hk))
  have hb4 : bl < w4.heap.size := by omega
  go_loop [14, 15] (fun h i => ∃ k : Nat, k ≤ len ∧ i = .int .i64 k ∧ h = .int .i64 (errI z k)) (fun _ i => len - (intOf i).toNat)
  case atStart => exact ⟨0, Nat.zero_le _, rfl, rfl⟩
  case round =>
    obtain ⟨k, hk, rfl, rfl⟩ := hrel
    by_cases hlt : k < len
    · have q := hc4.out k hlt
      have e1 := hide (err_succ_neg z k)
      have e2 := hide (err_succ z k)
      generalize z k = x at *
      generalize errI z k = E0 at *
      by_cases hx : x < 0
      · go_wp2
        go_round
        case rel => exact ⟨k + 1, by omega, by go_num, by rw [e1.out hx]⟩
        case measure => simp [intOf]; omega
      · go_wp2
        go_round
        case rel => exact ⟨k + 1, by omega, by go_num, by rw [e2.out (by omega)]⟩
        case measure => simp [intOf]; omega
    · have ek : k = len := by omega
      rw [ek]
      clear ek hk
      by_cases hn : nnB z len = true
      · have hnn := hide (show ∀ k, k < len → 0 ≤ z k from of_decide_eq_true hn)
        have eE : errI z len = 0 := if_pos hn
        rw [eE]
        have HN := hide hn
        clear eE hn hlt k
        go_wp2
        go_loop [13, 14, 16] (fun s h i => ∃ k : Nat, k ≤ len ∧ i = .int .i64 k ∧ ((s = .int .i64 (sumP z k) ∧ h = .int .i64 0 ∧ sumP z k ≤ 9223372036854775807) ∨ (s = .int .i64 0 ∧ h = .int .i64 20 ∧ ¬ sumP z len ≤ 9223372036854775807))) (fun _ h i => len - (intOf i).toNat)
        case atStart => exact ⟨0, Nat.zero_le _, rfl, .inl ⟨rfl, rfl, by show (0 : Int) ≤ _; omega⟩⟩
        case round =>
          obtain ⟨k, hk, rfl, hd⟩ := hrel
          rcases hd with ⟨rfl, rfl, hs⟩ | ⟨rfl, rfl, hs⟩
          · have s0 := sumP_nonneg z k fun j hj => hnn.out j (by omega)
            by_cases hlt : k < len
            · have q := hc4.out k hlt
              have z0 := hnn.out k hlt
              have x2 := hhi.out k hlt
              have hsucc := hide (show sumP z (k + 1) = sumP z k + z k from rfl)
              have hmono := hide (sumP_mono z (k + 1) len (by omega) hnn.out)
              have HA := hide (fun w => radd_any (sumP z k) (z k) w (by omega) hs (by omega) x2)
              generalize z k = x at *
              generalize sumP z k = s at *
              by_cases ho : s + x ≤ 9223372036854775807
              · rw [(addN_ok s0 z0 ho).1, (addN_ok s0 z0 ho).2] at HA
                go_wp2_with fail
                refine (HA.out _).mono ?_
                rintro e w6 ⟨rfl, rfl⟩
                go_wp2
                go_round
                case rel => exact ⟨k + 1, by omega, by go_num, .inl ⟨by rw [hsucc.out], rfl, by rw [hsucc.out]; exact ho⟩⟩
                case measure => simp [intOf]; omega
              · rw [(addN_over s0 z0 (by omega)).1, (addN_over s0 z0 (by omega)).2] at HA
                have hbig := hide (show ¬ sumP z len ≤ 9223372036854775807 by have := hmono.out; rw [hsucc.out] at this; omega)
                go_wp2_with fail
                refine (HA.out _).mono ?_
                rintro e w6 ⟨rfl, rfl⟩
                go_wp2
                go_round
                case rel => exact ⟨k + 1, by omega, by go_num, .inr ⟨rfl, rfl, by have := hbig.out; omega⟩⟩
                case measure => simp [intOf]; omega
            · have ek : k = len := by omega
              subst ek
              have hss := sum_ok z k HN.out hs
              have H5 := hide (fun w h1 h2 => H4.out w h1 h2)
              rw [hss.1, hss.2] at H5
              clear hss
              generalize sumP z k = s at *
              go_wp2_with fail
              refine (H5.out _ hb4 hc4.out).mono ?_
              rintro e w6 ⟨rfl, hb⟩
              have HB6 := hide (HB4.out.trans (hb.mono (by omega)))
              clear hb
              go_wp2
              go_ret
              exact ⟨by simp, HB6.out⟩
          · have hss := sum_over z len HN.out hs
            have H5 := hide (fun w h1 h2 => H4.out w h1 h2)
            rw [hss.1, hss.2] at H5
            clear hss hs
            by_cases hlt : k < len
            all_goals
              go_wp2_with fail
              refine (H5.out _ hb4 hc4.out).mono ?_
              rintro e w6 ⟨rfl, hb⟩
              have HB6 := hide (HB4.out.trans (hb.mono (by omega)))
              clear hb
              go_wp2
              go_ret
              exact ⟨by simp, HB6.out⟩
      · have eE : errI z len = 1 := if_neg hn
        rw [eE]
        have hss := sum_neg z len (by simpa using hn)
        rw [hss.1, hss.2] at H4
        clear eE hn hss hlt k
        go_wp2
        refine wp_loop_rounds 1 ?_
        rw [rounds_succ]
        by_cases hl0 : 0 < len
        all_goals
          go_wp2_with fail
          refine (H4.out _ hb4 hc4.out).mono ?_
          rintro e w6 ⟨rfl, hb⟩
          have HB6 := hide (HB4.out.trans (hb.mono (by omega)))
          clear hb
          go_wp2
          go_ret
          exact ⟨by simp, HB6.out⟩

set_option maxHeartbeats 2000000 in
theorem none_b (a b : Int) (ao : Option Addr) (cap : Nat) (w : World) (a1 : -9223372036854775808 ≤ a) (a2 : a ≤ 9223372036854775807) (b1 : -9223372036854775808 ≤ b) (b2 : b ≤ 9223372036854775807) (hc0 : ¬ a < 0) (hc : b < 0) (hsub : subN a b = 0 ∧ subE a b = 1) :
    Calls Try.prog 5 #[.int .i64 a, .int .i64 b, .slice ao 0 cap] w fun e w' => e = .returned (.bool true) ∧ Below w.heap.size w w' := by
  have H4 := hide (fun w => sum_none ao cap (fun _ => 0) w)
  have hs := sum_ok (fun _ => 0) 0 (decide_eq_true fun j hj => absurd hj (Nat.not_lt_zero _)) (by show (0 : Int) ≤ _; omega)
  rw [hs.1, hs.2] at H4
  clear hs
  have H1 := hide (fun w => add_any a b w a1 a2 b1 b2)
  have H2 := hide (fun w => radd_any a b w a1 a2 b1 b2)
  have H3 := hide (fun w => sub_any a b w a1 a2 b1 b2)
  rw [hsub.1, hsub.2] at H3
  clear hsub
  generalize addN a b = A at H1 H2
  generalize addE a b = E at H1 H2
  go_enter Try.func5, Try.ntmps5
  go_wp2_with fail
  refine (H1.out _).mono ?_
  rintro e w1 ⟨rfl, hb⟩
  have HB1 := hide hb
  have z1 := hb.size
  clear hb
  go_wp2_with fail
  refine (H2.out _).mono ?_
  rintro e w2 ⟨rfl, rfl⟩
  go_wp2_with fail
  refine (lives_any _).mono ?_
  rintro e w3 ⟨rfl, hb⟩
  have HB3 := hide (HB1.out.trans (hb.mono (by omega)))
  have z3 := hb.size
  clear hb
  go_wp2_with fail
  refine (H3.out _).mono ?_
  rintro e w4 ⟨rfl, hb⟩
  have HB4 := hide (HB3.out.trans (hb.mono (by omega)))
  have z4 := hb.size
  clear hb H1 H2 H3
  go_wp2
  refine wp_loop_rounds 1 ?_
  rw [rounds_succ]
  go_wp2
  refine wp_loop_rounds 1 ?_
  rw [rounds_succ]
  go_wp2_with fail
  refine (H4.out _).mono ?_
  rintro e w5 ⟨rfl, hb⟩
  have HB5 := hide (HB4.out.trans (hb.mono (by omega)))
  clear hb
  go_wp2
  go_ret
  exact ⟨rfl, HB5.out⟩

set_option maxHeartbeats 4000000 in
theorem row_b (a b : Int) (bl off len cap : Nat) (z : Nat → Int) (w : World) (a1 : -9223372036854775808 ≤ a) (a2 : a ≤ 9223372036854775807) (b1 : -9223372036854775808 ≤ b) (b2 : b ≤ 9223372036854775807) (hc0 : ¬ a < 0) (hc : b < 0) (hsub : subN a b = 0 ∧ subE a b = 1)
    (hl : len ≤ 17592186043904) (hbl : bl < w.heap.size) (hcl : Hid (∀ k, k < len → w.cell? ⟨bl, off + k, none⟩ = some (.int .i64 (z k)))) (hlo : Hid (∀ k, k < len → -9223372036854775808 ≤ z k)) (hhi : Hid (∀ k, k < len → z k ≤ 9223372036854775807)) :
    Calls Try.prog 5 #[.int .i64 a, .int .i64 b, .slice (some ⟨bl, off, none⟩) len cap] w fun e w' => e = .returned (.bool true) ∧ Below w.heap.size w w' := by
  have H4 := hide (fun w (h1 : bl < w.heap.size) h2 => sum_row bl off len cap z w (by omega) h1 h2 hhi.out)
  have H1 := hide (fun w => add_any a b w a1 a2 b1 b2)
  have H2 := hide (fun w => radd_any a b w a1 a2 b1 b2)
  have H3 := hide (fun w => sub_any a b w a1 a2 b1 b2)
  rw [hsub.1, hsub.2] at H3
  clear hsub
  generalize addN a b = A at H1 H2
  generalize addE a b = E at H1 H2
  go_enter Try.func5, Try.ntmps5
  go_wp2_with fail
  refine (H1.out _).mono ?_
  rintro e w1 ⟨rfl, hb⟩
  have HB1 := hide hb
  have z1 := hb.size
  clear hb
  go_wp2_with fail
  refine (H2.out _).mono ?_
  rintro e w2 ⟨rfl, rfl⟩
  go_wp2_with fail
  refine (lives_any _).mono ?_
  rintro e w3 ⟨rfl, hb⟩
  have HB3 := hide (HB1.out.trans (hb.mono (by omega)))
  have z3 := hb.size
  clear hb
  go_wp2_with fail
  refine (H3.out _).mono ?_
  rintro e w4 ⟨rfl, hb⟩
  have HB4 := hide (HB3.out.trans (hb.mono (by omega)))
  have z4 := hb.size
  clear hb H1 H2 H3
  go_wp2
  have hc4 := hide (fun k (hk : k < len) => (HB4.out.cell (p := ⟨bl, off + k, none⟩) (by exact hbl)).trans (hcl.out k hk))
  have hb4 : bl < w4.heap.size := by omega
  go_loop [14, 15] (fun h i => ∃ k : Nat, k ≤ len ∧ i = .int .i64 k ∧ h = .int .i64 (errI z k)) (fun _ i => len - (intOf i).toNat)
  case atStart => exact ⟨0, Nat.zero_le _, rfl, rfl⟩
  case round =>
    obtain ⟨k, hk, rfl, rfl⟩ := hrel
    by_cases hlt : k < len
    · have q := hc4.out k hlt
      have e1 := hide (err_succ_neg z k)
      have e2 := hide (err_succ z k)
      generalize z k = x at *
      generalize errI z k = E0 at *
      by_cases hx : x < 0
      · go_wp2
        go_round
        case rel => exact ⟨k + 1, by omega, by go_num, by rw [e1.out hx]⟩
        case measure => simp [intOf]; omega
      · go_wp2
        go_round
        case rel => exact ⟨k + 1, by omega, by go_num, by rw [e2.out (by omega)]⟩
        case measure => simp [intOf]; omega
    · have ek : k = len := by omega
      rw [ek]
      clear ek hk
      by_cases hn : nnB z len = true
      · have hnn := hide (show ∀ k, k < len → 0 ≤ z k from of_decide_eq_true hn)
        have eE : errI z len = 0 := if_pos hn
        rw [eE]
        have HN := hide hn
        clear eE hn hlt k
        go_wp2
        go_loop [13, 14, 16] (fun s h i => ∃ k : Nat, k ≤ len ∧ i = .int .i64 k ∧ ((s = .int .i64 (sumP z k) ∧ h = .int .i64 0 ∧ sumP z k ≤ 9223372036854775807) ∨ (s = .int .i64 0 ∧ h = .int .i64 20 ∧ ¬ sumP z len ≤ 9223372036854775807))) (fun _ h i => len - (intOf i).toNat)
        case atStart => exact ⟨0, Nat.zero_le _, rfl, .inl ⟨rfl, rfl, by show (0 : Int) ≤ _; omega⟩⟩
        case round =>
          obtain ⟨k, hk, rfl, hd⟩ := hrel
          rcases hd with ⟨rfl, rfl, hs⟩ | ⟨rfl, rfl, hs⟩
          · have s0 := sumP_nonneg z k fun j hj => hnn.out j (by omega)
            by_cases hlt : k < len
            · have q := hc4.out k hlt
              have z0 := hnn.out k hlt
              have x2 := hhi.out k hlt
              have hsucc := hide (show sumP z (k + 1) = sumP z k + z k from rfl)
              have hmono := hide (sumP_mono z (k + 1) len (by omega) hnn.out)
              have HA := hide (fun w => radd_any (sumP z k) (z k) w (by omega) hs (by omega) x2)
              generalize z k = x at *
              generalize sumP z k = s at *
              by_cases ho : s + x ≤ 9223372036854775807
              · rw [(addN_ok s0 z0 ho).1, (addN_ok s0 z0 ho).2] at HA
                go_wp2_with fail
                refine (HA.out _).mono ?_
                rintro e w6 ⟨rfl, rfl⟩
                go_wp2
                go_round
                case rel => exact ⟨k + 1, by omega, by go_num, .inl ⟨by rw [hsucc.out], rfl, by rw [hsucc.out]; exact ho⟩⟩
                case measure => simp [intOf]; omega
              · rw [(addN_over s0 z0 (by omega)).1, (addN_over s0 z0 (by omega)).2] at HA
                have hbig := hide (show ¬ sumP z len ≤ 9223372036854775807 by have := hmono.out; rw [hsucc.out] at this; omega)
                go_wp2_with fail
                refine (HA.out _).mono ?_
                rintro e w6 ⟨rfl, rfl⟩
                go_wp2
                go_round
                case rel => exact ⟨k + 1, by omega, by go_num, .inr ⟨rfl, rfl, by have := hbig.out; omega⟩⟩
                case measure => simp [intOf]; omega
            · have ek : k = len := by omega
              subst ek
              have hss := sum_ok z k HN.out hs
              have H5 := hide (fun w h1 h2 => H4.out w h1 h2)
              rw [hss.1, hss.2] at H5
              clear hss
              generalize sumP z k = s at *
              go_wp2_with fail
              refine (H5.out _ hb4 hc4.out).mono ?_
              rintro e w6 ⟨rfl, hb⟩
              have HB6 := hide (HB4.out.trans (hb.mono (by omega)))
              clear hb
              go_wp2
              go_ret
              exact ⟨by simp, HB6.out⟩
          · have hss := sum_over z len HN.out hs
            have H5 := hide (fun w h1 h2 => H4.out w h1 h2)
            rw [hss.1, hss.2] at H5
            clear hss hs
            by_cases hlt : k < len
            all_goals
              go_wp2_with fail
              refine (H5.out _ hb4 hc4.out).mono ?_
              rintro e w6 ⟨rfl, hb⟩
              have HB6 := hide (HB4.out.trans (hb.mono (by omega)))
              clear hb
              go_wp2
              go_ret
              exact ⟨by simp, HB6.out⟩
      · have eE : errI z len = 1 := if_neg hn
        rw [eE]
        have hss := sum_neg z len (by simpa using hn)
        rw [hss.1, hss.2] at H4
        clear eE hn hss hlt k
        go_wp2
        refine wp_loop_rounds 1 ?_
        rw [rounds_succ]
        by_cases hl0 : 0 < len
        all_goals
          go_wp2_with fail
          refine (H4.out _ hb4 hc4.out).mono ?_
          rintro e w6 ⟨rfl, hb⟩
          have HB6 := hide (HB4.out.trans (hb.mono (by omega)))
          clear hb
          go_wp2
          go_ret
          exact ⟨by simp, HB6.out⟩

set_option maxHeartbeats 2000000 in
theorem none_c (a b : Int) (ao : Option Addr) (cap : Nat) (w : World) (a1 : -9223372036854775808 ≤ a) (a2 : a ≤ 9223372036854775807) (b1 : -9223372036854775808 ≤ b) (b2 : b ≤ 9223372036854775807) (hc0 : ¬ a < 0) (hc1 : ¬ b < 0) (hc : a < b) (hsub : subN a b = 0 ∧ subE a b = 20) :
    Calls Try.prog 5 #[.int .i64 a, .int .i64 b, .slice ao 0 cap] w fun e w' => e = .returned (.bool true) ∧ Below w.heap.size w w' := by
  have H4 := hide (fun w => sum_none ao cap (fun _ => 0) w)
  have hs := sum_ok (fun _ => 0) 0 (decide_eq_true fun j hj => absurd hj (Nat.not_lt_zero _)) (by show (0 : Int) ≤ _; omega)
  rw [hs.1, hs.2] at H4
  clear hs
  have H1 := hide (fun w => add_any a b w a1 a2 b1 b2)
  have H2 := hide (fun w => radd_any a b w a1 a2 b1 b2)
  have H3 := hide (fun w => sub_any a b w a1 a2 b1 b2)
  rw [hsub.1, hsub.2] at H3
  clear hsub
  generalize addN a b = A at H1 H2
  generalize addE a b = E at H1 H2
  go_enter Try.func5, Try.ntmps5
  go_wp2_with fail
  refine (H1.out _).mono ?_
  rintro e w1 ⟨rfl, hb⟩
  have HB1 := hide hb
  have z1 := hb.size
  clear hb
  go_wp2_with fail
  refine (H2.out _).mono ?_
  rintro e w2 ⟨rfl, rfl⟩
  go_wp2_with fail
  refine (lives_any _).mono ?_
  rintro e w3 ⟨rfl, hb⟩
  have HB3 := hide (HB1.out.trans (hb.mono (by omega)))
  have z3 := hb.size
  clear hb
  go_wp2_with fail
  refine (H3.out _).mono ?_
  rintro e w4 ⟨rfl, hb⟩
  have HB4 := hide (HB3.out.trans (hb.mono (by omega)))
  have z4 := hb.size
  clear hb H1 H2 H3
  go_wp2
  refine wp_loop_rounds 1 ?_
  rw [rounds_succ]
  go_wp2
  refine wp_loop_rounds 1 ?_
  rw [rounds_succ]
  go_wp2_with fail
  refine (H4.out _).mono ?_
  rintro e w5 ⟨rfl, hb⟩
  have HB5 := hide (HB4.out.trans (hb.mono (by omega)))
  clear hb
  go_wp2
  go_ret
  exact ⟨rfl, HB5.out⟩

set_option maxHeartbeats 4000000 in
theorem row_c (a b : Int) (bl off len cap : Nat) (z : Nat → Int) (w : World) (a1 : -9223372036854775808 ≤ a) (a2 : a ≤ 9223372036854775807) (b1 : -9223372036854775808 ≤ b) (b2 : b ≤ 9223372036854775807) (hc0 : ¬ a < 0) (hc1 : ¬ b < 0) (hc : a < b) (hsub : subN a b = 0 ∧ subE a b = 20)
    (hl : len ≤ 17592186043904) (hbl : bl < w.heap.size) (hcl : Hid (∀ k, k < len → w.cell? ⟨bl, off + k, none⟩ = some (.int .i64 (z k)))) (hlo : Hid (∀ k, k < len → -9223372036854775808 ≤ z k)) (hhi : Hid (∀ k, k < len → z k ≤ 9223372036854775807)) :
    Calls Try.prog 5 #[.int .i64 a, .int .i64 b, .slice (some ⟨bl, off, none⟩) len cap] w fun e w' => e = .returned (.bool true) ∧ Below w.heap.size w w' := by
  have H4 := hide (fun w (h1 : bl < w.heap.size) h2 => sum_row bl off len cap z w (by omega) h1 h2 hhi.out)
  have H1 := hide (fun w => add_any a b w a1 a2 b1 b2)
  have H2 := hide (fun w => radd_any a b w a1 a2 b1 b2)
  have H3 := hide (fun w => sub_any a b w a1 a2 b1 b2)
  rw [hsub.1, hsub.2] at H3
  clear hsub
  generalize addN a b = A at H1 H2
  generalize addE a b = E at H1 H2
  go_enter Try.func5, Try.ntmps5
  go_wp2_with fail
  refine (H1.out _).mono ?_
  rintro e w1 ⟨rfl, hb⟩
  have HB1 := hide hb
  have z1 := hb.size
  clear hb
  go_wp2_with fail
  refine (H2.out _).mono ?_
  rintro e w2 ⟨rfl, rfl⟩
  go_wp2_with fail
  refine (lives_any _).mono ?_
  rintro e w3 ⟨rfl, hb⟩
  have HB3 := hide (HB1.out.trans (hb.mono (by omega)))
  have z3 := hb.size
  clear hb
  go_wp2_with fail
  refine (H3.out _).mono ?_
  rintro e w4 ⟨rfl, hb⟩
  have HB4 := hide (HB3.out.trans (hb.mono (by omega)))
  have z4 := hb.size
  clear hb H1 H2 H3
  go_wp2
  have hc4 := hide (fun k (hk : k < len) => (HB4.out.cell (p := ⟨bl, off + k, none⟩) (by exact hbl)).trans (hcl.out k hk))
  have hb4 : bl < w4.heap.size := by omega
  go_loop [14, 15] (fun h i => ∃ k : Nat, k ≤ len ∧ i = .int .i64 k ∧ h = .int .i64 (errI z k)) (fun _ i => len - (intOf i).toNat)
  case atStart => exact ⟨0, Nat.zero_le _, rfl, rfl⟩
  case round =>
    obtain ⟨k, hk, rfl, rfl⟩ := hrel
    by_cases hlt : k < len
    · have q := hc4.out k hlt
      have e1 := hide (err_succ_neg z k)
      have e2 := hide (err_succ z k)
      generalize z k = x at *
      generalize errI z k = E0 at *
      by_cases hx : x < 0
      · go_wp2
        go_round
        case rel => exact ⟨k + 1, by omega, by go_num, by rw [e1.out hx]⟩
        case measure => simp [intOf]; omega
      · go_wp2
        go_round
        case rel => exact ⟨k + 1, by omega, by go_num, by rw [e2.out (by omega)]⟩
        case measure => simp [intOf]; omega
    · have ek : k = len := by omega
      rw [ek]
      clear ek hk
      by_cases hn : nnB z len = true
      · have hnn := hide (show ∀ k, k < len → 0 ≤ z k from of_decide_eq_true hn)
        have eE : errI z len = 0 := if_pos hn
        rw [eE]
        have HN := hide hn
        clear eE hn hlt k
        go_wp2
        go_loop [13, 14, 16] (fun s h i => ∃ k : Nat, k ≤ len ∧ i = .int .i64 k ∧ ((s = .int .i64 (sumP z k) ∧ h = .int .i64 0 ∧ sumP z k ≤ 9223372036854775807) ∨ (s = .int .i64 0 ∧ h = .int .i64 20 ∧ ¬ sumP z len ≤ 9223372036854775807))) (fun _ h i => len - (intOf i).toNat)
        case atStart => exact ⟨0, Nat.zero_le _, rfl, .inl ⟨rfl, rfl, by show (0 : Int) ≤ _; omega⟩⟩
        case round =>
          obtain ⟨k, hk, rfl, hd⟩ := hrel
          rcases hd with ⟨rfl, rfl, hs⟩ | ⟨rfl, rfl, hs⟩
          · have s0 := sumP_nonneg z k fun j hj => hnn.out j (by omega)
            by_cases hlt : k < len
            · have q := hc4.out k hlt
              have z0 := hnn.out k hlt
              have x2 := hhi.out k hlt
              have hsucc := hide (show sumP z (k + 1) = sumP z k + z k from rfl)
              have hmono := hide (sumP_mono z (k + 1) len (by omega) hnn.out)
              have HA := hide (fun w => radd_any (sumP z k) (z k) w (by omega) hs (by omega) x2)
              generalize z k = x at *
              generalize sumP z k = s at *
              by_cases ho : s + x ≤ 9223372036854775807
              · rw [(addN_ok s0 z0 ho).1, (addN_ok s0 z0 ho).2] at HA
                go_wp2_with fail
                refine (HA.out _).mono ?_
                rintro e w6 ⟨rfl, rfl⟩
                go_wp2
                go_round
                case rel => exact ⟨k + 1, by omega, by go_num, .inl ⟨by rw [hsucc.out], rfl, by rw [hsucc.out]; exact ho⟩⟩
                case measure => simp [intOf]; omega
              · rw [(addN_over s0 z0 (by omega)).1, (addN_over s0 z0 (by omega)).2] at HA
                have hbig := hide (show ¬ sumP z len ≤ 9223372036854775807 by have := hmono.out; rw [hsucc.out] at this; omega)
                go_wp2_with fail
                refine (HA.out _).mono ?_
                rintro e w6 ⟨rfl, rfl⟩
                go_wp2
                go_round
                case rel => exact ⟨k + 1, by omega, by go_num, .inr ⟨rfl, rfl, by have := hbig.out; omega⟩⟩
                case measure => simp [intOf]; omega
            · have ek : k = len := by omega
              subst ek
              have hss := sum_ok z k HN.out hs
              have H5 := hide (fun w h1 h2 => H4.out w h1 h2)
              rw [hss.1, hss.2] at H5
              clear hss
              generalize sumP z k = s at *
              go_wp2_with fail
              refine (H5.out _ hb4 hc4.out).mono ?_
              rintro e w6 ⟨rfl, hb⟩
              have HB6 := hide (HB4.out.trans (hb.mono (by omega)))
              clear hb
              go_wp2
              go_ret
              exact ⟨by simp, HB6.out⟩
          · have hss := sum_over z len HN.out hs
            have H5 := hide (fun w h1 h2 => H4.out w h1 h2)
            rw [hss.1, hss.2] at H5
            clear hss hs
            by_cases hlt : k < len
            all_goals
              go_wp2_with fail
              refine (H5.out _ hb4 hc4.out).mono ?_
              rintro e w6 ⟨rfl, hb⟩
              have HB6 := hide (HB4.out.trans (hb.mono (by omega)))
              clear hb
              go_wp2
              go_ret
              exact ⟨by simp, HB6.out⟩
      · have eE : errI z len = 1 := if_neg hn
        rw [eE]
        have hss := sum_neg z len (by simpa using hn)
        rw [hss.1, hss.2] at H4
        clear eE hn hss hlt k
        go_wp2
        refine wp_loop_rounds 1 ?_
        rw [rounds_succ]
        by_cases hl0 : 0 < len
        all_goals
          go_wp2_with fail
          refine (H4.out _ hb4 hc4.out).mono ?_
          rintro e w6 ⟨rfl, hb⟩
          have HB6 := hide (HB4.out.trans (hb.mono (by omega)))
          clear hb
          go_wp2
          go_ret
          exact ⟨by simp, HB6.out⟩

set_option maxHeartbeats 2000000 in
theorem none_d (a b : Int) (ao : Option Addr) (cap : Nat) (w : World) (a1 : -9223372036854775808 ≤ a) (a2 : a ≤ 9223372036854775807) (b1 : -9223372036854775808 ≤ b) (b2 : b ≤ 9223372036854775807) (hc0 : ¬ a < 0) (hc1 : ¬ b < 0) (hc : ¬ a < b) (hsub : subN a b = (a - b) ∧ subE a b = 0) :
    Calls Try.prog 5 #[.int .i64 a, .int .i64 b, .slice ao 0 cap] w fun e w' => e = .returned (.bool true) ∧ Below w.heap.size w w' := by
  have H4 := hide (fun w => sum_none ao cap (fun _ => 0) w)
  have hs := sum_ok (fun _ => 0) 0 (decide_eq_true fun j hj => absurd hj (Nat.not_lt_zero _)) (by show (0 : Int) ≤ _; omega)
  rw [hs.1, hs.2] at H4
  clear hs
  have H1 := hide (fun w => add_any a b w a1 a2 b1 b2)
  have H2 := hide (fun w => radd_any a b w a1 a2 b1 b2)
  have H3 := hide (fun w => sub_any a b w a1 a2 b1 b2)
  rw [hsub.1, hsub.2] at H3
  clear hsub
  generalize addN a b = A at H1 H2
  generalize addE a b = E at H1 H2
  go_enter Try.func5, Try.ntmps5
  go_wp2_with fail
  refine (H1.out _).mono ?_
  rintro e w1 ⟨rfl, hb⟩
  have HB1 := hide hb
  have z1 := hb.size
  clear hb
  go_wp2_with fail
  refine (H2.out _).mono ?_
  rintro e w2 ⟨rfl, rfl⟩
  go_wp2_with fail
  refine (lives_any _).mono ?_
  rintro e w3 ⟨rfl, hb⟩
  have HB3 := hide (HB1.out.trans (hb.mono (by omega)))
  have z3 := hb.size
  clear hb
  go_wp2_with fail
  refine (H3.out _).mono ?_
  rintro e w4 ⟨rfl, hb⟩
  have HB4 := hide (HB3.out.trans (hb.mono (by omega)))
  have z4 := hb.size
  clear hb H1 H2 H3
  go_wp2
  refine wp_loop_rounds 1 ?_
  rw [rounds_succ]
  go_wp2
  refine wp_loop_rounds 1 ?_
  rw [rounds_succ]
  go_wp2_with fail
  refine (H4.out _).mono ?_
  rintro e w5 ⟨rfl, hb⟩
  have HB5 := hide (HB4.out.trans (hb.mono (by omega)))
  clear hb
  go_wp2
  go_ret
  exact ⟨rfl, HB5.out⟩

set_option maxHeartbeats 4000000 in
theorem row_d (a b : Int) (bl off len cap : Nat) (z : Nat → Int) (w : World) (a1 : -9223372036854775808 ≤ a) (a2 : a ≤ 9223372036854775807) (b1 : -9223372036854775808 ≤ b) (b2 : b ≤ 9223372036854775807) (hc0 : ¬ a < 0) (hc1 : ¬ b < 0) (hc : ¬ a < b) (hsub : subN a b = (a - b) ∧ subE a b = 0)
    (hl : len ≤ 17592186043904) (hbl : bl < w.heap.size) (hcl : Hid (∀ k, k < len → w.cell? ⟨bl, off + k, none⟩ = some (.int .i64 (z k)))) (hlo : Hid (∀ k, k < len → -9223372036854775808 ≤ z k)) (hhi : Hid (∀ k, k < len → z k ≤ 9223372036854775807)) :
    Calls Try.prog 5 #[.int .i64 a, .int .i64 b, .slice (some ⟨bl, off, none⟩) len cap] w fun e w' => e = .returned (.bool true) ∧ Below w.heap.size w w' := by
  have H4 := hide (fun w (h1 : bl < w.heap.size) h2 => sum_row bl off len cap z w (by omega) h1 h2 hhi.out)
  have H1 := hide (fun w => add_any a b w a1 a2 b1 b2)
  have H2 := hide (fun w => radd_any a b w a1 a2 b1 b2)
  have H3 := hide (fun w => sub_any a b w a1 a2 b1 b2)
  rw [hsub.1, hsub.2] at H3
  clear hsub
  generalize addN a b = A at H1 H2
  generalize addE a b = E at H1 H2
  go_enter Try.func5, Try.ntmps5
  go_wp2_with fail
  refine (H1.out _).mono ?_
  rintro e w1 ⟨rfl, hb⟩
  have HB1 := hide hb
  have z1 := hb.size
  clear hb
  go_wp2_with fail
  refine (H2.out _).mono ?_
  rintro e w2 ⟨rfl, rfl⟩
  go_wp2_with fail
  refine (lives_any _).mono ?_
  rintro e w3 ⟨rfl, hb⟩
  have HB3 := hide (HB1.out.trans (hb.mono (by omega)))
  have z3 := hb.size
  clear hb
  go_wp2_with fail
  refine (H3.out _).mono ?_
  rintro e w4 ⟨rfl, hb⟩
  have HB4 := hide (HB3.out.trans (hb.mono (by omega)))
  have z4 := hb.size
  clear hb H1 H2 H3
  go_wp2
  have hc4 := hide (fun k (hk : k < len) => (HB4.out.cell (p := ⟨bl, off + k, none⟩) (by exact hbl)).trans (hcl.out k hk))
  have hb4 : bl < w4.heap.size := by omega
  go_loop [14, 15] (fun h i => ∃ k : Nat, k ≤ len ∧ i = .int .i64 k ∧ h = .int .i64 (errI z k)) (fun _ i => len - (intOf i).toNat)
  case atStart => exact ⟨0, Nat.zero_le _, rfl, rfl⟩
  case round =>
    obtain ⟨k, hk, rfl, rfl⟩ := hrel
    by_cases hlt : k < len
    · have q := hc4.out k hlt
      have e1 := hide (err_succ_neg z k)
      have e2 := hide (err_succ z k)
      generalize z k = x at *
      generalize errI z k = E0 at *
      by_cases hx : x < 0
      · go_wp2
        go_round
        case rel => exact ⟨k + 1, by omega, by go_num, by rw [e1.out hx]⟩
        case measure => simp [intOf]; omega
      · go_wp2
        go_round
        case rel => exact ⟨k + 1, by omega, by go_num, by rw [e2.out (by omega)]⟩
        case measure => simp [intOf]; omega
    · have ek : k = len := by omega
      rw [ek]
      clear ek hk
      by_cases hn : nnB z len = true
      · have hnn := hide (show ∀ k, k < len → 0 ≤ z k from of_decide_eq_true hn)
        have eE : errI z len = 0 := if_pos hn
        rw [eE]
        have HN := hide hn
        clear eE hn hlt k
        go_wp2
        go_loop [13, 14, 16] (fun s h i => ∃ k : Nat, k ≤ len ∧ i = .int .i64 k ∧ ((s = .int .i64 (sumP z k) ∧ h = .int .i64 0 ∧ sumP z k ≤ 9223372036854775807) ∨ (s = .int .i64 0 ∧ h = .int .i64 20 ∧ ¬ sumP z len ≤ 9223372036854775807))) (fun _ h i => len - (intOf i).toNat)
        case atStart => exact ⟨0, Nat.zero_le _, rfl, .inl ⟨rfl, rfl, by show (0 : Int) ≤ _; omega⟩⟩
        case round =>
          obtain ⟨k, hk, rfl, hd⟩ := hrel
          rcases hd with ⟨rfl, rfl, hs⟩ | ⟨rfl, rfl, hs⟩
          · have s0 := sumP_nonneg z k fun j hj => hnn.out j (by omega)
            by_cases hlt : k < len
            · have q := hc4.out k hlt
              have z0 := hnn.out k hlt
              have x2 := hhi.out k hlt
              have hsucc := hide (show sumP z (k + 1) = sumP z k + z k from rfl)
              have hmono := hide (sumP_mono z (k + 1) len (by omega) hnn.out)
              have HA := hide (fun w => radd_any (sumP z k) (z k) w (by omega) hs (by omega) x2)
              generalize z k = x at *
              generalize sumP z k = s at *
              by_cases ho : s + x ≤ 9223372036854775807
              · rw [(addN_ok s0 z0 ho).1, (addN_ok s0 z0 ho).2] at HA
                go_wp2_with fail
                refine (HA.out _).mono ?_
                rintro e w6 ⟨rfl, rfl⟩
                go_wp2
                go_round
                case rel => exact ⟨k + 1, by omega, by go_num, .inl ⟨by rw [hsucc.out], rfl, by rw [hsucc.out]; exact ho⟩⟩
                case measure => simp [intOf]; omega
              · rw [(addN_over s0 z0 (by omega)).1, (addN_over s0 z0 (by omega)).2] at HA
                have hbig := hide (show ¬ sumP z len ≤ 9223372036854775807 by have := hmono.out; rw [hsucc.out] at this; omega)
                go_wp2_with fail
                refine (HA.out _).mono ?_
                rintro e w6 ⟨rfl, rfl⟩
                go_wp2
                go_round
                case rel => exact ⟨k + 1, by omega, by go_num, .inr ⟨rfl, rfl, by have := hbig.out; omega⟩⟩
                case measure => simp [intOf]; omega
            · have ek : k = len := by omega
              subst ek
              have hss := sum_ok z k HN.out hs
              have H5 := hide (fun w h1 h2 => H4.out w h1 h2)
              rw [hss.1, hss.2] at H5
              clear hss
              generalize sumP z k = s at *
              go_wp2_with fail
              refine (H5.out _ hb4 hc4.out).mono ?_
              rintro e w6 ⟨rfl, hb⟩
              have HB6 := hide (HB4.out.trans (hb.mono (by omega)))
              clear hb
              go_wp2
              go_ret
              exact ⟨by simp, HB6.out⟩
          · have hss := sum_over z len HN.out hs
            have H5 := hide (fun w h1 h2 => H4.out w h1 h2)
            rw [hss.1, hss.2] at H5
            clear hss hs
            by_cases hlt : k < len
            all_goals
              go_wp2_with fail
              refine (H5.out _ hb4 hc4.out).mono ?_
              rintro e w6 ⟨rfl, hb⟩
              have HB6 := hide (HB4.out.trans (hb.mono (by omega)))
              clear hb
              go_wp2
              go_ret
              exact ⟨by simp, HB6.out⟩
      · have eE : errI z len = 1 := if_neg hn
        rw [eE]
        have hss := sum_neg z len (by simpa using hn)
        rw [hss.1, hss.2] at H4
        clear eE hn hss hlt k
        go_wp2
        refine wp_loop_rounds 1 ?_
        rw [rounds_succ]
        by_cases hl0 : 0 < len
        all_goals
          go_wp2_with fail
          refine (H4.out _ hb4 hc4.out).mono ?_
          rintro e w6 ⟨rfl, hb⟩
          have HB6 := hide (HB4.out.trans (hb.mono (by omega)))
          clear hb
          go_wp2
          go_ret
          exact ⟨by simp, HB6.out⟩

theorem walk (a b : Int) (ao : Option Addr) (len cap : Nat) (zs : List Int) (w : World) (w0 : (Lit.int .i64 a).wf = true) (w1 : (Lit.int .i64 b).wf = true) (w2 : IsRow .i64 8 w ao len cap zs) :
    Calls Try.prog 5 #[.int .i64 a, .int .i64 b, .slice ao len cap] w fun e w' => e = .returned (.bool true) ∧ Below w.heap.size w w' := by
  obtain ⟨a1, a2⟩ := bounds_i64 w0
  obtain ⟨b1, b2⟩ := bounds_i64 w1
  have sA : a < 0 ∨ b < 0 → subN a b = 0 ∧ subE a b = 1 := fun h => by unfold subN subE; rw [if_pos h, if_pos h]; exact ⟨rfl, rfl⟩
  have sB : ¬ (a < 0 ∨ b < 0) → a < b → subN a b = 0 ∧ subE a b = 20 := fun h h2 => by unfold subN subE; rw [if_neg h, if_neg h, if_pos h2, if_pos h2]; exact ⟨rfl, rfl⟩
  have sC : ¬ (a < 0 ∨ b < 0) → ¬ a < b → subN a b = a - b ∧ subE a b = 0 := fun h h2 => by unfold subN subE; rw [if_neg h, if_neg h, if_neg h2, if_neg h2]; exact ⟨rfl, rfl⟩
  by_cases h0 : len = 0
  · subst h0
    by_cases c1 : a < 0
    · exact none_a a b ao cap w a1 a2 b1 b2 c1 (sA (.inl c1))
    · by_cases c2 : b < 0
      · exact none_b a b ao cap w a1 a2 b1 b2 c1 c2 (sA (.inr c2))
      · by_cases c3 : a < b
        · exact none_c a b ao cap w a1 a2 b1 b2 c1 c2 c3 (sB (by omega) c3)
        · exact none_d a b ao cap w a1 a2 b1 b2 c1 c2 c3 (sC (by omega) c3)
  · rcases w2 with ⟨_, h, _, _⟩ | ⟨x, rfl, hl, hm, hz, hr, hcell, hwz⟩
    · exact absurd h h0
    · obtain ⟨bl, off, spot⟩ := x
      have hspot : spot = none := by simpa [Addr.add] using World.cell?_spot (hcell 0 (by omega))
      subst hspot
      have hc : ∀ k, k < len → w.cell? ⟨bl, off + k, none⟩ = some (.int .i64 ((fun k => zs.getD k 0) k)) := fun k hk => by have h := hcell k (by omega); rw [addr_add] at h; exact h
      have hbl : bl < w.heap.size := block_lt_of_cell (hc 0 (by omega))
      have hbd : ∀ k, k < len → -9223372036854775808 ≤ (fun k => zs.getD k 0) k ∧ (fun k => zs.getD k 0) k ≤ 9223372036854775807 := fun k hk => by
        have hkz : k < zs.length := by omega
        have hmem : zs.getD k 0 ∈ zs := by rw [List.getD_eq_getElem?_getD, List.getElem?_eq_getElem hkz]; exact List.getElem_mem hkz
        exact bounds_i64 (hwz _ hmem)
      generalize (fun k => zs.getD k 0) = z at *
      have hlo : ∀ k, k < len → -9223372036854775808 ≤ z k := fun k hk => (hbd k hk).1
      have hhi : ∀ k, k < len → z k ≤ 9223372036854775807 := fun k hk => (hbd k hk).2
      by_cases c1 : a < 0
      · exact row_a a b bl off len cap z w a1 a2 b1 b2 c1 (sA (.inl c1)) (by omega) hbl hc hlo hhi
      · by_cases c2 : b < 0
        · exact row_b a b bl off len cap z w a1 a2 b1 b2 c1 c2 (sA (.inr c2)) (by omega) hbl hc hlo hhi
        · by_cases c3 : a < b
          · exact row_c a b bl off len cap z w a1 a2 b1 b2 c1 c2 c3 (sB (by omega) c3) (by omega) hbl hc hlo hhi
          · exact row_d a b bl off len cap z w a1 a2 b1 b2 c1 c2 c3 (sC (by omega) c3) (by omega) hbl hc hlo hhi

theorem own : ownKnob Try.prog.godebug = none := by kernel_rfl
theorem laidOut : laidOutB Try.prog = true := by kernel_rfl
theorem bytesEints : Try.prog.bytesOf 3 = 8 := by kernel_rfl

set_option maxRecDepth 100000 in
theorem lifted (os : Os) (started : os.Started) (H : Type) (enc : TypeId × Value → H) :
    ReturnsInHanded {} Try.checked os 5 .any (Rows.amountSumsSpec.pre6 enc Try.prog Try.f5 Rows.amountSumsRow.domain false) (Rows.amountSumsSpec.post enc Try.prog Try.f5 false true false false) := by
  refine returnsInHanded_of_change_sized (C := Try.checked) own started (by kernel_rfl) Try.func5
    (ChangeSpec.witness6 (enc := enc) (C := Try.checked) false ⟨#[], #[.int .i64 0, .int .i64 0, .slice none 0 0], []⟩ 8 (by kernel_rfl) (by kernel_rfl) (by kernel_rfl) (by kernel_rfl)) ?_
  intro W base args ds gs before hval0 hW hcnd hsz0 _
  have hsz : (DataW.weightsEach Try.prog (Try.f5.params.toList ++ Rows.amountSumsSpec.plain.varTypes Try.prog) (ds ++ gs)).all (· ≤ reachBytes) = true := hsz0
  have hval : ∀ (j : Nat) t v, Try.f5.params[j]? = some t → args[j]? = some v → Value.okWide Try.prog W .any base t v := hval0
  have hW' := hW
  obtain ⟨p, q, hA0, hV, rfl, hfz, hnd⟩ := hW
  have hA : DataW.TrodAll enc Try.prog W 0 (fun _ => true) true Try.f5.params.toList args.toList ds p := hA0
  rw [Try.params5] at hA hval hsz
  obtain ⟨v0, vs0, d0, ds0, p0, q0, hargs, rfl, rfl, h0, r0⟩ := trodAll_cons hA
  obtain ⟨v1, vs1, d1, ds1, p1, q1, rfl, rfl, rfl, h1, r1⟩ := trodAll_cons r0
  obtain ⟨v2, vs2, d2, ds2, p2, q2, rfl, rfl, rfl, h2, r2⟩ := trodAll_cons r1
  obtain ⟨rfl, rfl, rfl⟩ := trodAll_nil r2
  obtain rfl : args = #[v0, v1, v2] := by cases args; simp_all
  obtain ⟨rfl, rfl⟩ := trodVars_none hV
  have k0 := h0
  have lt0 : ∀ x ∈ p0, x.block < W.heap.size := by obtain ⟨m, hm⟩ := k0; exact DataW.trod_lt m _ _ _ hm
  have k1 := h1
  have lt1 : ∀ x ∈ p1, x.block < W.heap.size := by obtain ⟨m, hm⟩ := k1; exact DataW.trod_lt m _ _ _ hm
  have k2 := h2
  have lt2 : ∀ x ∈ p2, x.block < W.heap.size := by obtain ⟨m, hm⟩ := k2; exact DataW.trod_lt m _ _ _ hm
  obtain ⟨a0, rfl, rfl, rfl, w0⟩ := open_int Try.underlying3 (hval 0 3 v0 rfl rfl) h0
  obtain ⟨a1, rfl, rfl, rfl, w1⟩ := open_int Try.underlying3 (hval 1 3 v1 rfl rfl) h1
  obtain ⟨a2, len2, cap2, rfl⟩ := okWide_slice Try.underlying33 (hval 2 33 v2 rfl rfl)
  obtain ⟨z2, w2⟩ : ∃ zs, IsRow .i64 8 W a2 len2 cap2 zs := by
    obtain ⟨fuel, hf⟩ := h2
    rcases open_ints Try.underlying33 Try.underlying3 (by kernel_rfl) hf with ⟨hcs, _⟩ | ⟨x, l, c, zs, hcs, _, hl, hm, hz, hx, hcell, hwz⟩
    · simp [Value.cells] at hcs
      obtain ⟨rfl, rfl, rfl⟩ := hcs
      exact ⟨[], .inl ⟨rfl, rfl, rfl, rfl⟩⟩
    · simp [Value.cells] at hcs
      obtain ⟨rfl, rfl, rfl⟩ := hcs
      simp only [Prod.mk.injEq] at hx
      have hxd := hx.1
      subst hxd
      have hrch := sized_slice hsz (j := 2) (t := 33) (e := 3) rfl rfl Try.underlying33
      rw [bytesEints] at hrch
      simp only [lits, List.length_map, List.length_take, List.length_drop, reachBytes] at hrch
      exact ⟨zs, .inr ⟨_, rfl, hl, hm, by simpa using hz, by simp at hz; omega, hcell, hwz⟩⟩
  clear hA0 hval0 hsz0 hsz
  refine (walk a0 a1 a2 len2 cap2 z2 W w0 w1 w2).mono fun e W' ⟨he, bel⟩ => ?_
  subst he
  exact ⟨_, rfl, _, _, _, [], _, [], hW', trodAll_mk1 (shut_bool Try.underlying4 _), (trodAll_cons_mk (Below.trod laidOut (by kernel_rfl) (of_decide_eq_true (by kernel_rfl)) k0 bel lt0) (trodAll_cons_mk (Below.trod laidOut (by kernel_rfl) (of_decide_eq_true (by kernel_rfl)) k1 bel lt1) (trodAll_cons_mk (Below.trod laidOut (by kernel_rfl) (of_decide_eq_true (by kernel_rfl)) k2 bel lt2) trodAll_mk0))), rfl, bel.frame _, fun h => by cases h⟩

theorem over : Rows.amountSumsRow.holds Try.pinned (OpenSpec.ofChange Rows.amountSumsSpec) :=
  OpenClaim.holds_of_wide 5 Try.f5 rfl rfl rfl rfl rfl rfl rfl ⟨rfl, rfl, rfl, rfl, rfl⟩ rfl rfl rfl rfl rfl (by kernel_rfl) Try.func5 (by kernel_rfl)
    (of_decide_eq_true (by kernel_rfl)) (by unfold Func.isWrapper; first | (rw [if_pos (by decide +kernel)]; kernel_rfl) | (rw [if_neg (by decide +kernel)]; exact ⟨rfl, rfl⟩))
    (fun os started H enc _ => lifted os started H enc)

theorem proved : Rows.AmountSumsSaid := over
end Go.Proofs.Ytclimopeejkdbab.amountSums
namespace Go.Proofs.Ytclimopeejkdbab
theorem amountSums_holds : Rows.AmountSumsSaid := amountSums.proved
end Go.Proofs.Ytclimopeejkdbab
