/- Proved: for all fees and every int the statement AmountOut (P2.2, P2.4: the greatest amount that may go out for what comes in) returns true over the code at the commit, and changes none of its arguments. No condition. -/
import Derived.Test.YtclimopeejkdbabRows
import Derived.Test.YtclimopeejkdbabAmtLives
import Derived.Test.YtclimopeejkdbabRefOut
import Derived.WalkKit
import Derived.ProofKit
import Derived.OpenShut
import Derived.Lib.SmallJoins
namespace Go.Proofs.Ytclimopeejkdbab.amountOut
open Go.ChangeShapes Go.WideShapes Go.ChangeAt Go.RowKit Go.Joins
set_option linter.unusedVariables false

set_option maxHeartbeats 1000000 in
theorem no (b r x U E : Int) (w : World) (ho : outN b r x = U ∧ outE b r x = E) (hE : (E != 0) = true) (b1 : -9223372036854775808 ≤ b) (b2 : b ≤ 9223372036854775807) (x1 : -9223372036854775808 ≤ x) (x2 : x ≤ 9223372036854775807) :
    Calls Try.prog 7 #[.agg #[.int .i64 b, .int .i64 r], .int .i64 x] w fun e w' => e = .returned (.bool true) ∧ Below w.heap.size w w' := by
  have H1 := hide (fun w => out_any b r x w b2 x2)
  rw [ho.1, ho.2] at H1
  have H2 := hide (fun w => rout_any b r x w b1 b2 x2)
  rw [ho.1, ho.2] at H2
  clear ho
  go_enter Try.func7, Try.ntmps7
  go_wp2_with fail
  refine (H1.out _).mono ?_
  rintro e w1 ⟨rfl, hb⟩
  have z1 : w.heap.size < w1.heap.size := by have := hb.size; simp at this; omega
  have HB1 := hide (((Below.refl w.heap.size w).alloc (Nat.le_refl _) _).trans (hb.mono (by simp)))
  have c0 : w1.cell? ⟨w.heap.size, 0, none⟩ = some (.int .i64 b) := (hb.cell (by simp)).trans (by simp)
  have c1 : w1.cell? ⟨w.heap.size, 1, none⟩ = some (.int .i64 r) := (hb.cell (by simp)).trans (by simp)
  clear hb
  go_wp2_with fail
  refine (H2.out _).mono ?_
  rintro e w2 ⟨rfl, hb⟩
  have z2 : w.heap.size < w2.heap.size := by have := hb.size; omega
  have HB2 := hide (HB1.out.trans (hb.mono (by omega)))
  have d0 : w2.cell? ⟨w.heap.size, 0, none⟩ = some (.int .i64 b) := (hb.cell (by exact z1)).trans c0
  have d1 : w2.cell? ⟨w.heap.size, 1, none⟩ = some (.int .i64 r) := (hb.cell (by exact z1)).trans c1
  clear hb c0 c1
  go_wp2_with fail
  refine (lives_any _).mono ?_
  rintro e w3 ⟨rfl, hb⟩
  have z3 : w.heap.size < w3.heap.size := by have := hb.size; omega
  have HB3 := hide (HB2.out.trans (hb.mono (by omega)))
  have c0 : w3.cell? ⟨w.heap.size, 0, none⟩ = some (.int .i64 b) := (hb.cell (by exact z2)).trans d0
  have c1 : w3.cell? ⟨w.heap.size, 1, none⟩ = some (.int .i64 r) := (hb.cell (by exact z2)).trans d1
  clear hb d0 d1
  go_wp2
  go_ret
  exact ⟨rfl, HB3.out⟩

set_option maxHeartbeats 1000000 in
theorem all (b r x U N : Int) (w : World) (ho : outN b r x = U ∧ outE b r x = 0) (hi : inN b r U = N ∧ inE b r U = 0) (u0 : 0 ≤ U) (hN : N ≤ x) (hU : U ≤ x) (hq : (U == x) = true) (b1 : -9223372036854775808 ≤ b) (b2 : b ≤ 9223372036854775807) (x1 : -9223372036854775808 ≤ x) (x2 : x ≤ 9223372036854775807) :
    Calls Try.prog 7 #[.agg #[.int .i64 b, .int .i64 r], .int .i64 x] w fun e w' => e = .returned (.bool true) ∧ Below w.heap.size w w' := by
  have H1 := hide (fun w => out_any b r x w b2 x2)
  rw [ho.1, ho.2] at H1
  have H2 := hide (fun w => rout_any b r x w b1 b2 x2)
  rw [ho.1, ho.2] at H2
  clear ho
  have H3 := hide (fun w => in_any b r U w b2 (by omega) (by omega))
  rw [hi.1, hi.2] at H3
  clear hi
  go_enter Try.func7, Try.ntmps7
  go_wp2_with fail
  refine (H1.out _).mono ?_
  rintro e w1 ⟨rfl, hb⟩
  have z1 : w.heap.size < w1.heap.size := by have := hb.size; simp at this; omega
  have HB1 := hide (((Below.refl w.heap.size w).alloc (Nat.le_refl _) _).trans (hb.mono (by simp)))
  have c0 : w1.cell? ⟨w.heap.size, 0, none⟩ = some (.int .i64 b) := (hb.cell (by simp)).trans (by simp)
  have c1 : w1.cell? ⟨w.heap.size, 1, none⟩ = some (.int .i64 r) := (hb.cell (by simp)).trans (by simp)
  clear hb
  go_wp2_with fail
  refine (H2.out _).mono ?_
  rintro e w2 ⟨rfl, hb⟩
  have z2 : w.heap.size < w2.heap.size := by have := hb.size; omega
  have HB2 := hide (HB1.out.trans (hb.mono (by omega)))
  have d0 : w2.cell? ⟨w.heap.size, 0, none⟩ = some (.int .i64 b) := (hb.cell (by exact z1)).trans c0
  have d1 : w2.cell? ⟨w.heap.size, 1, none⟩ = some (.int .i64 r) := (hb.cell (by exact z1)).trans c1
  clear hb c0 c1
  go_wp2_with fail
  refine (lives_any _).mono ?_
  rintro e w3 ⟨rfl, hb⟩
  have z3 : w.heap.size < w3.heap.size := by have := hb.size; omega
  have HB3 := hide (HB2.out.trans (hb.mono (by omega)))
  have c0 : w3.cell? ⟨w.heap.size, 0, none⟩ = some (.int .i64 b) := (hb.cell (by exact z2)).trans d0
  have c1 : w3.cell? ⟨w.heap.size, 1, none⟩ = some (.int .i64 r) := (hb.cell (by exact z2)).trans d1
  clear hb d0 d1
  go_wp2_with fail
  refine (H3.out _).mono ?_
  rintro e w4 ⟨rfl, hb⟩
  have z4 : w.heap.size < w4.heap.size := by have := hb.size; omega
  have HB4 := hide (HB3.out.trans (hb.mono (by omega)))
  have d0 : w4.cell? ⟨w.heap.size, 0, none⟩ = some (.int .i64 b) := (hb.cell (by exact z3)).trans c0
  have d1 : w4.cell? ⟨w.heap.size, 1, none⟩ = some (.int .i64 r) := (hb.cell (by exact z3)).trans c1
  clear hb c0 c1
  go_wp2
  go_ret
  exact ⟨rfl, HB4.out⟩

set_option maxHeartbeats 1000000 in
theorem err (b r x U N M E : Int) (w : World) (ho : outN b r x = U ∧ outE b r x = 0) (hi : inN b r U = N ∧ inE b r U = 0) (u0 : 0 ≤ U) (hN : N ≤ x) (hU : U < x) (hq : (U == x) = false) (hj : inN b r (U + 1) = M ∧ inE b r (U + 1) = E) (hE : (E != 0) = true) (b1 : -9223372036854775808 ≤ b) (b2 : b ≤ 9223372036854775807) (x1 : -9223372036854775808 ≤ x) (x2 : x ≤ 9223372036854775807) :
    Calls Try.prog 7 #[.agg #[.int .i64 b, .int .i64 r], .int .i64 x] w fun e w' => e = .returned (.bool true) ∧ Below w.heap.size w w' := by
  have H1 := hide (fun w => out_any b r x w b2 x2)
  rw [ho.1, ho.2] at H1
  have H2 := hide (fun w => rout_any b r x w b1 b2 x2)
  rw [ho.1, ho.2] at H2
  clear ho
  have H3 := hide (fun w => in_any b r U w b2 (by omega) (by omega))
  rw [hi.1, hi.2] at H3
  clear hi
  have H4 := hide (fun w => in_any b r (U + 1) w b2 (by omega) (by omega))
  rw [hj.1, hj.2] at H4
  clear hj
  go_enter Try.func7, Try.ntmps7
  go_wp2_with fail
  refine (H1.out _).mono ?_
  rintro e w1 ⟨rfl, hb⟩
  have z1 : w.heap.size < w1.heap.size := by have := hb.size; simp at this; omega
  have HB1 := hide (((Below.refl w.heap.size w).alloc (Nat.le_refl _) _).trans (hb.mono (by simp)))
  have c0 : w1.cell? ⟨w.heap.size, 0, none⟩ = some (.int .i64 b) := (hb.cell (by simp)).trans (by simp)
  have c1 : w1.cell? ⟨w.heap.size, 1, none⟩ = some (.int .i64 r) := (hb.cell (by simp)).trans (by simp)
  clear hb
  go_wp2_with fail
  refine (H2.out _).mono ?_
  rintro e w2 ⟨rfl, hb⟩
  have z2 : w.heap.size < w2.heap.size := by have := hb.size; omega
  have HB2 := hide (HB1.out.trans (hb.mono (by omega)))
  have d0 : w2.cell? ⟨w.heap.size, 0, none⟩ = some (.int .i64 b) := (hb.cell (by exact z1)).trans c0
  have d1 : w2.cell? ⟨w.heap.size, 1, none⟩ = some (.int .i64 r) := (hb.cell (by exact z1)).trans c1
  clear hb c0 c1
  go_wp2_with fail
  refine (lives_any _).mono ?_
  rintro e w3 ⟨rfl, hb⟩
  have z3 : w.heap.size < w3.heap.size := by have := hb.size; omega
  have HB3 := hide (HB2.out.trans (hb.mono (by omega)))
  have c0 : w3.cell? ⟨w.heap.size, 0, none⟩ = some (.int .i64 b) := (hb.cell (by exact z2)).trans d0
  have c1 : w3.cell? ⟨w.heap.size, 1, none⟩ = some (.int .i64 r) := (hb.cell (by exact z2)).trans d1
  clear hb d0 d1
  go_wp2_with fail
  refine (H3.out _).mono ?_
  rintro e w4 ⟨rfl, hb⟩
  have z4 : w.heap.size < w4.heap.size := by have := hb.size; omega
  have HB4 := hide (HB3.out.trans (hb.mono (by omega)))
  have d0 : w4.cell? ⟨w.heap.size, 0, none⟩ = some (.int .i64 b) := (hb.cell (by exact z3)).trans c0
  have d1 : w4.cell? ⟨w.heap.size, 1, none⟩ = some (.int .i64 r) := (hb.cell (by exact z3)).trans c1
  clear hb c0 c1
  go_wp2_with fail
  refine (H4.out _).mono ?_
  rintro e w5 ⟨rfl, hb⟩
  have HB5 := hide (HB4.out.trans (hb.mono (by omega)))
  clear hb
  go_wp2
  go_ret
  exact ⟨by simp, HB5.out⟩

set_option maxHeartbeats 1000000 in
theorem more (b r x U N M : Int) (w : World) (ho : outN b r x = U ∧ outE b r x = 0) (hi : inN b r U = N ∧ inE b r U = 0) (u0 : 0 ≤ U) (hN : N ≤ x) (hU : U < x) (hq : (U == x) = false) (hj : inN b r (U + 1) = M ∧ inE b r (U + 1) = 0) (hM : x < M) (b1 : -9223372036854775808 ≤ b) (b2 : b ≤ 9223372036854775807) (x1 : -9223372036854775808 ≤ x) (x2 : x ≤ 9223372036854775807) :
    Calls Try.prog 7 #[.agg #[.int .i64 b, .int .i64 r], .int .i64 x] w fun e w' => e = .returned (.bool true) ∧ Below w.heap.size w w' := by
  have H1 := hide (fun w => out_any b r x w b2 x2)
  rw [ho.1, ho.2] at H1
  have H2 := hide (fun w => rout_any b r x w b1 b2 x2)
  rw [ho.1, ho.2] at H2
  clear ho
  have H3 := hide (fun w => in_any b r U w b2 (by omega) (by omega))
  rw [hi.1, hi.2] at H3
  clear hi
  have H4 := hide (fun w => in_any b r (U + 1) w b2 (by omega) (by omega))
  rw [hj.1, hj.2] at H4
  clear hj
  go_enter Try.func7, Try.ntmps7
  go_wp2_with fail
  refine (H1.out _).mono ?_
  rintro e w1 ⟨rfl, hb⟩
  have z1 : w.heap.size < w1.heap.size := by have := hb.size; simp at this; omega
  have HB1 := hide (((Below.refl w.heap.size w).alloc (Nat.le_refl _) _).trans (hb.mono (by simp)))
  have c0 : w1.cell? ⟨w.heap.size, 0, none⟩ = some (.int .i64 b) := (hb.cell (by simp)).trans (by simp)
  have c1 : w1.cell? ⟨w.heap.size, 1, none⟩ = some (.int .i64 r) := (hb.cell (by simp)).trans (by simp)
  clear hb
  go_wp2_with fail
  refine (H2.out _).mono ?_
  rintro e w2 ⟨rfl, hb⟩
  have z2 : w.heap.size < w2.heap.size := by have := hb.size; omega
  have HB2 := hide (HB1.out.trans (hb.mono (by omega)))
  have d0 : w2.cell? ⟨w.heap.size, 0, none⟩ = some (.int .i64 b) := (hb.cell (by exact z1)).trans c0
  have d1 : w2.cell? ⟨w.heap.size, 1, none⟩ = some (.int .i64 r) := (hb.cell (by exact z1)).trans c1
  clear hb c0 c1
  go_wp2_with fail
  refine (lives_any _).mono ?_
  rintro e w3 ⟨rfl, hb⟩
  have z3 : w.heap.size < w3.heap.size := by have := hb.size; omega
  have HB3 := hide (HB2.out.trans (hb.mono (by omega)))
  have c0 : w3.cell? ⟨w.heap.size, 0, none⟩ = some (.int .i64 b) := (hb.cell (by exact z2)).trans d0
  have c1 : w3.cell? ⟨w.heap.size, 1, none⟩ = some (.int .i64 r) := (hb.cell (by exact z2)).trans d1
  clear hb d0 d1
  go_wp2_with fail
  refine (H3.out _).mono ?_
  rintro e w4 ⟨rfl, hb⟩
  have z4 : w.heap.size < w4.heap.size := by have := hb.size; omega
  have HB4 := hide (HB3.out.trans (hb.mono (by omega)))
  have d0 : w4.cell? ⟨w.heap.size, 0, none⟩ = some (.int .i64 b) := (hb.cell (by exact z3)).trans c0
  have d1 : w4.cell? ⟨w.heap.size, 1, none⟩ = some (.int .i64 r) := (hb.cell (by exact z3)).trans c1
  clear hb c0 c1
  go_wp2_with fail
  refine (H4.out _).mono ?_
  rintro e w5 ⟨rfl, hb⟩
  have HB5 := hide (HB4.out.trans (hb.mono (by omega)))
  clear hb
  go_wp2
  go_ret
  exact ⟨by simp, HB5.out⟩

theorem walk (b r x : Int) (w : World) (w0 : (Lit.int .i64 b).wf = true) (w1 : (Lit.int .i64 r).wf = true) (w2 : (Lit.int .i64 x).wf = true) :
    Calls Try.prog 7 #[.agg #[.int .i64 b, .int .i64 r], .int .i64 x] w fun e w' => e = .returned (.bool true) ∧ Below w.heap.size w w' := by
  obtain ⟨b1, b2⟩ := bounds_i64 w0
  obtain ⟨x1, x2⟩ := bounds_i64 w2
  by_cases hn : rightB b r = true ∧ 0 ≤ x
  · by_cases hl : x < b
    · have e1 : outN b r x = 0 := by unfold outN; rw [if_pos hn, if_pos hl]
      have e2 : outE b r x = 20 := by unfold outE; rw [if_pos hn, if_pos hl]
      exact no b r x 0 20 w ⟨e1, e2⟩ (by decide) b1 b2 x1 x2
    · have e1 : outN b r x = ((x - b + 1) * 1000000 - 1) / (1000000 + r) := by unfold outN; rw [if_pos hn, if_neg hl]
      have e2 : outE b r x = 0 := by unfold outE; rw [if_pos hn, if_neg hl]
      have hU := outU_bd b r x hn.1 hn.2 (by omega)
      have HP : ∀ m, 0 ≤ m → m ≤ x → (inE b r m = 0 ∧ inN b r m ≤ x ↔ m ≤ ((x - b + 1) * 1000000 - 1) / (1000000 + r)) := fun m h1 h2 => in_le_iff b r x m hn.1 hn.2 (by omega) h1 h2 x2
      generalize ((x - b + 1) * 1000000 - 1) / (1000000 + r) = U at *
      have hi := (HP U hU.1 hU.2).2 (Int.le_refl _)
      by_cases hq : U = x
      · exact all b r x U _ w ⟨e1, e2⟩ ⟨rfl, hi.1⟩ hU.1 hi.2 hU.2 (by simpa using hq) b1 b2 x1 x2
      · have hlt : U < x := by omega
        have hno : ¬ (inE b r (U + 1) = 0 ∧ inN b r (U + 1) ≤ x) := fun h => by
          have := (HP (U + 1) (by omega) (by omega)).1 h
          omega
        by_cases hE : inE b r (U + 1) = 0
        · exact more b r x U _ _ w ⟨e1, e2⟩ ⟨rfl, hi.1⟩ hU.1 hi.2 hlt (by simpa using hq) ⟨rfl, hE⟩ (Int.not_le.1 fun h => hno ⟨hE, h⟩) b1 b2 x1 x2
        · exact err b r x U _ _ _ w ⟨e1, e2⟩ ⟨rfl, hi.1⟩ hU.1 hi.2 hlt (by simpa using hq) ⟨rfl, rfl⟩ (by simpa using hE) b1 b2 x1 x2
  · have e1 : outN b r x = 0 := if_neg hn
    have e2 : outE b r x = 1 := if_neg hn
    exact no b r x 0 1 w ⟨e1, e2⟩ (by decide) b1 b2 x1 x2

theorem own : ownKnob Try.prog.godebug = none := by kernel_rfl
theorem laidOut : laidOutB Try.prog = true := by kernel_rfl
theorem cellsFees : Try.prog.cellsOf 39 = 2 := by kernel_rfl

set_option maxRecDepth 100000 in
theorem lifted (os : Os) (started : os.Started) (H : Type) (enc : TypeId × Value → H) :
    ReturnsInHanded {} Try.checked os 7 .any (Rows.amountOutSpec.pre6 enc Try.prog Try.f7 Rows.amountOutRow.domain false) (Rows.amountOutSpec.post enc Try.prog Try.f7 false true false false) := by
  refine returnsInHanded_of_change (C := Try.checked) own started (by kernel_rfl) Try.func7
    (ChangeSpec.witness6 (enc := enc) (C := Try.checked) false ⟨#[], #[.agg #[.int .i64 0, .int .i64 0], .int .i64 0], []⟩ 8 (by kernel_rfl) (by kernel_rfl) (by kernel_rfl) (by kernel_rfl)) ?_
  intro W base args ds gs before hval0 hW hcnd _
  have hval : ∀ (j : Nat) t v, Try.f7.params[j]? = some t → args[j]? = some v → Value.okWide Try.prog W .any base t v := hval0
  have hW' := hW
  obtain ⟨p, q, hA0, hV, rfl, hfz, hnd⟩ := hW
  have hA : DataW.TrodAll enc Try.prog W 0 (fun _ => true) true Try.f7.params.toList args.toList ds p := hA0
  rw [Try.params7] at hA hval
  obtain ⟨v0, vs0, d0, ds0, p0, q0, hargs, rfl, rfl, h0, r0⟩ := trodAll_cons hA
  obtain ⟨v1, vs1, d1, ds1, p1, q1, rfl, rfl, rfl, h1, r1⟩ := trodAll_cons r0
  obtain ⟨rfl, rfl, rfl⟩ := trodAll_nil r1
  obtain rfl : args = #[v0, v1] := by cases args; simp_all
  obtain ⟨rfl, rfl⟩ := trodVars_none hV
  have k0 := h0
  have lt0 : ∀ x ∈ p0, x.block < W.heap.size := by obtain ⟨m, hm⟩ := k0; exact DataW.trod_lt m _ _ _ hm
  have k1 := h1
  have lt1 : ∀ x ∈ p1, x.block < W.heap.size := by obtain ⟨m, hm⟩ := k1; exact DataW.trod_lt m _ _ _ hm
  obtain ⟨c00, c01, y00, y01, m0, rfl, rfl, rfl, hy00, hy01⟩ := open_agg2 Try.underlying39 (by kernel_rfl) cellsFees (hval 0 39 v0 rfl rfl) h0
  obtain ⟨b0, eb0, rfl, wb0⟩ := DataW.trod_int Try.underlying3 hy00
  obtain ⟨f0, ef0, rfl, wf0⟩ := DataW.trod_int Try.underlying3 hy01
  simp at eb0 ef0
  subst eb0 ef0
  obtain ⟨a1, rfl, rfl, rfl, w1⟩ := open_int Try.underlying3 (hval 1 3 v1 rfl rfl) h1
  clear hA0 hval0
  refine (walk b0 f0 a1 W wb0 wf0 w1).mono fun e W' ⟨he, bel⟩ => ?_
  subst he
  exact ⟨_, rfl, _, _, _, [], _, [], hW', trodAll_mk1 (shut_bool Try.underlying4 _), (trodAll_cons_mk (Below.trod laidOut (by kernel_rfl) (of_decide_eq_true (by kernel_rfl)) k0 bel lt0) (trodAll_cons_mk (Below.trod laidOut (by kernel_rfl) (of_decide_eq_true (by kernel_rfl)) k1 bel lt1) trodAll_mk0)), rfl, bel.frame _, fun h => by cases h⟩

theorem over : Rows.amountOutRow.holds Try.pinned (OpenSpec.ofChange Rows.amountOutSpec) :=
  OpenClaim.holds_of_wide 7 Try.f7 rfl rfl rfl rfl rfl rfl rfl ⟨rfl, rfl, rfl, rfl, rfl⟩ rfl rfl rfl rfl rfl (by kernel_rfl) Try.func7 (by kernel_rfl)
    (of_decide_eq_true (by kernel_rfl)) (by unfold Func.isWrapper; first | (rw [if_pos (by decide +kernel)]; kernel_rfl) | (rw [if_neg (by decide +kernel)]; exact ⟨rfl, rfl⟩))
    (fun os started H enc _ => lifted os started H enc)

theorem proved : Rows.AmountOutSaid := over
end Go.Proofs.Ytclimopeejkdbab.amountOut
namespace Go.Proofs.Ytclimopeejkdbab
theorem amountOut_holds : Rows.AmountOutSaid := amountOut.proved
end Go.Proofs.Ytclimopeejkdbab
