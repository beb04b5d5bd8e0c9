/- Proved: for all fees and every int the statement AmountBack (P2.4: there and back: at least what went out comes of what comes in for it) returns true over the code at the commit, and changes none of its arguments. No condition. -/
import Derived.Test.YtclimopeejkdbacRows
import Derived.Test.YtclimopeejkdbacAmtLives
import Derived.Test.YtclimopeejkdbacAmtOut
import Derived.WalkKit
import Derived.ProofKit
import Derived.OpenShut
import Derived.Lib.SmallJoins
namespace Go.Proofs.Ytclimopeejkdbac.amountBack
open Go.ChangeShapes Go.WideShapes Go.ChangeAt Go.RowKit Go.Joins
set_option linter.unusedVariables false

theorem walk_no (b r x E : Int) (w : World) (h : inN b r x = 0 ∧ inE b r x = E) (hE : (E != 0) = true) (b2 : b ≤ 9223372036854775807) (x1 : -9223372036854775808 ≤ x) (x2 : x ≤ 9223372036854775807) :
    Calls Try.prog 4 #[.agg #[.int .i64 b, .int .i64 r], .int .i64 x] w fun e w' => e = .returned (.bool true) ∧ Below w.heap.size w w' := by
  have H1 := hide (fun w => in_any b r x w b2 x1 x2)
  rw [h.1, h.2] at H1
  clear h
  go_enter Try.func4, Try.ntmps4
  go_wp2_with fail
  refine (H1.out _).mono ?_
  rintro e w1 ⟨rfl, hb⟩
  have z1 : w.heap.size < w1.heap.size := by have := hb.size; simp at this; omega
  have HB1 := hide (((Below.refl w.heap.size w).alloc (Nat.le_refl _) _).trans (hb.mono (by simp)))
  clear hb
  go_wp2_with fail
  refine (lives_any _).mono ?_
  rintro e w2 ⟨rfl, hb⟩
  have HB2 := hide (HB1.out.trans (hb.mono (by omega)))
  clear hb
  go_wp2
  go_ret
  exact ⟨rfl, HB2.out⟩

theorem walk_ok (b r x I O : Int) (w : World) (h : inN b r x = I ∧ inE b r x = 0) (ho : outN b r I = O ∧ outE b r I = 0) (g1 : x ≤ O) (g2 : x ≤ I) (i2 : I ≤ 9223372036854775807) (b2 : b ≤ 9223372036854775807) (x1 : -9223372036854775808 ≤ x) (x2 : x ≤ 9223372036854775807) :
    Calls Try.prog 4 #[.agg #[.int .i64 b, .int .i64 r], .int .i64 x] w fun e w' => e = .returned (.bool true) ∧ Below w.heap.size w w' := by
  have H1 := hide (fun w => in_any b r x w b2 x1 x2)
  rw [h.1, h.2] at H1
  have H2 := hide (fun w => out_any b r I w b2 i2)
  rw [ho.1, ho.2] at H2
  clear h ho
  go_enter Try.func4, Try.ntmps4
  go_wp2_with fail
  refine (H1.out _).mono ?_
  rintro e w1 ⟨rfl, hb⟩
  have z1 : w.heap.size < w1.heap.size := by have := hb.size; simp at this; omega
  have HB1 := hide (((Below.refl w.heap.size w).alloc (Nat.le_refl _) _).trans (hb.mono (by simp)))
  have c0 : w1.cell? ⟨w.heap.size, 0, none⟩ = some (.int .i64 b) := (hb.cell (by simp)).trans (by simp)
  have c1 : w1.cell? ⟨w.heap.size, 1, none⟩ = some (.int .i64 r) := (hb.cell (by simp)).trans (by simp)
  clear hb
  go_wp2_with fail
  refine (lives_any _).mono ?_
  rintro e w2 ⟨rfl, hb⟩
  have z2 : w.heap.size < w2.heap.size := by have := hb.size; omega
  have HB2 := hide (HB1.out.trans (hb.mono (by omega)))
  have d0 : w2.cell? ⟨w.heap.size, 0, none⟩ = some (.int .i64 b) := (hb.cell (by exact z1)).trans c0
  have d1 : w2.cell? ⟨w.heap.size, 1, none⟩ = some (.int .i64 r) := (hb.cell (by exact z1)).trans c1
  clear hb c0 c1
  go_wp2_with fail
  refine (H2.out _).mono ?_
  rintro e w3 ⟨rfl, hb⟩
  have HB3 := hide (HB2.out.trans (hb.mono (by omega)))
  clear hb
  go_wp2
  go_ret
  exact ⟨by simp, HB3.out⟩

theorem walk (b r x : Int) (w : World) (w0 : (Lit.int .i64 b).wf = true) (w1 : (Lit.int .i64 r).wf = true) (w2 : (Lit.int .i64 x).wf = true) :
    Calls Try.prog 4 #[.agg #[.int .i64 b, .int .i64 r], .int .i64 x] w fun e w' => e = .returned (.bool true) ∧ Below w.heap.size w w' := by
  obtain ⟨b1, b2⟩ := bounds_i64 w0
  obtain ⟨x1, x2⟩ := bounds_i64 w2
  by_cases hn : rightB b r = true ∧ 0 ≤ x
  · have hr : 0 ≤ b ∧ 0 ≤ r ∧ r ≤ 1000000 := of_decide_eq_true hn.1
    have hp := part_le x r hn.2 hr.2.1 hr.2.2
    by_cases ho : x + (b + x * r / 1000000) ≤ 9223372036854775807
    · have hi := in_ok b r x hn.1 hn.2 ho hp.1
      have hu := (out_iff x (x + (b + x * r / 1000000) - b) r hr.2.1).1 (by omega)
      refine walk_ok b r x (x + (b + x * r / 1000000)) (((x + (b + x * r / 1000000) - b + 1) * 1000000 - 1) / (1000000 + r)) w hi.2.2 ⟨?_, ?_⟩ hu (by omega) ho b2 x1 x2
      · unfold outN; rw [if_pos ⟨hn.1, by omega⟩, if_neg (by omega)]
      · unfold outE; rw [if_pos ⟨hn.1, by omega⟩, if_neg (by omega)]
    · exact walk_no b r x 20 w (in_no b r x hn.1 hn.2 (by omega) hp.1) (by decide) b2 x1 x2
  · exact walk_no b r x 1 w (fee_no b r x hn).2.2 (by decide) b2 x1 x2

theorem own : ownKnob Try.prog.godebug = none := by kernel_rfl
theorem laidOut : laidOutB Try.prog = true := by kernel_rfl
theorem cellsFees : Try.prog.cellsOf 26 = 2 := by kernel_rfl

set_option maxRecDepth 100000 in
theorem lifted (os : Os) (started : os.Started) (H : Type) (enc : TypeId × Value → H) :
    ReturnsInHanded {} Try.checked os 4 .any (Rows.amountBackSpec.pre6 enc Try.prog Try.f4 Rows.amountBackRow.domain false) (Rows.amountBackSpec.post enc Try.prog Try.f4 false true false false) := by
  refine returnsInHanded_of_change (C := Try.checked) own started (by kernel_rfl) Try.func4
    (ChangeSpec.witness6 (enc := enc) (C := Try.checked) false ⟨#[], #[.agg #[.int .i64 0, .int .i64 0], .int .i64 0], []⟩ 8 (by kernel_rfl) (by kernel_rfl) (by kernel_rfl) (by kernel_rfl)) ?_
  intro W base args ds gs before hval0 hW hcnd _
  have hval : ∀ (j : Nat) t v, Try.f4.params[j]? = some t → args[j]? = some v → Value.okWide Try.prog W .any base t v := hval0
  have hW' := hW
  obtain ⟨p, q, hA0, hV, rfl, hfz, hnd⟩ := hW
  have hA : DataW.TrodAll enc Try.prog W 0 (fun _ => true) true Try.f4.params.toList args.toList ds p := hA0
  rw [Try.params4] at hA hval
  obtain ⟨v0, vs0, d0, ds0, p0, q0, hargs, rfl, rfl, h0, r0⟩ := trodAll_cons hA
  obtain ⟨v1, vs1, d1, ds1, p1, q1, rfl, rfl, rfl, h1, r1⟩ := trodAll_cons r0
  obtain ⟨rfl, rfl, rfl⟩ := trodAll_nil r1
  obtain rfl : args = #[v0, v1] := by cases args; simp_all
  obtain ⟨rfl, rfl⟩ := trodVars_none hV
  have k0 := h0
  have lt0 : ∀ x ∈ p0, x.block < W.heap.size := by obtain ⟨m, hm⟩ := k0; exact DataW.trod_lt m _ _ _ hm
  have k1 := h1
  have lt1 : ∀ x ∈ p1, x.block < W.heap.size := by obtain ⟨m, hm⟩ := k1; exact DataW.trod_lt m _ _ _ hm
  obtain ⟨c00, c01, y00, y01, m0, rfl, rfl, rfl, hy00, hy01⟩ := open_agg2 Try.underlying26 (by kernel_rfl) cellsFees (hval 0 26 v0 rfl rfl) h0
  obtain ⟨b0, eb0, rfl, wb0⟩ := DataW.trod_int Try.underlying3 hy00
  obtain ⟨f0, ef0, rfl, wf0⟩ := DataW.trod_int Try.underlying3 hy01
  simp at eb0 ef0
  subst eb0 ef0
  obtain ⟨a1, rfl, rfl, rfl, w1⟩ := open_int Try.underlying3 (hval 1 3 v1 rfl rfl) h1
  clear hA0 hval0
  refine (walk b0 f0 a1 W wb0 wf0 w1).mono fun e W' ⟨he, bel⟩ => ?_
  subst he
  exact ⟨_, rfl, _, _, _, [], _, [], hW', trodAll_mk1 (shut_bool Try.underlying4 _), (trodAll_cons_mk (Below.trod laidOut (by kernel_rfl) (of_decide_eq_true (by kernel_rfl)) k0 bel lt0) (trodAll_cons_mk (Below.trod laidOut (by kernel_rfl) (of_decide_eq_true (by kernel_rfl)) k1 bel lt1) trodAll_mk0)), rfl, bel.frame _, fun h => by cases h⟩

theorem over : Rows.amountBackRow.holds Try.pinned (OpenSpec.ofChange Rows.amountBackSpec) :=
  OpenClaim.holds_of_wide 4 Try.f4 rfl rfl rfl rfl rfl rfl rfl ⟨rfl, rfl, rfl, rfl, rfl⟩ rfl rfl rfl rfl rfl (by kernel_rfl) Try.func4 (by kernel_rfl)
    (of_decide_eq_true (by kernel_rfl)) (by unfold Func.isWrapper; first | (rw [if_pos (by decide +kernel)]; kernel_rfl) | (rw [if_neg (by decide +kernel)]; exact ⟨rfl, rfl⟩))
    (fun os started H enc _ => lifted os started H enc)

theorem proved : Rows.AmountBackSaid := over
end Go.Proofs.Ytclimopeejkdbac.amountBack
namespace Go.Proofs.Ytclimopeejkdbac
theorem amountBack_holds : Rows.AmountBackSaid := amountBack.proved
end Go.Proofs.Ytclimopeejkdbac
