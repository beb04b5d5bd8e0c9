/- Proved: for every three ints the statement AmountLaws (P2.1: sums are the same in any order, and taken away again) returns true over the code at the commit, and changes none of its arguments. No condition. -/
import Derived.Test.YtclimopeejkdbacRows
import Derived.Test.YtclimopeejkdbacAmtLives
import Derived.Test.YtclimopeejkdbacAmtSum
import Derived.WalkKit
import Derived.ProofKit
import Derived.OpenShut
namespace Go.Proofs.Ytclimopeejkdbac.amountLaws
open Go.ChangeShapes Go.WideShapes Go.ChangeAt Go.RowKit
set_option linter.unusedVariables false

def pick3 (a b c : Int) : Nat → Int := fun k => if k = 0 then a else if k = 1 then b else c
theorem sum3_neg (a b c : Int) (h : c < 0) : sumN (pick3 a b c) 3 = 0 ∧ sumE (pick3 a b c) 3 = 1 := by
  have hn : ¬ nnB (pick3 a b c) 3 = true := fun hh => by
    have := of_decide_eq_true hh 2 (by omega)
    simp [pick3] at this
    omega
  unfold sumN sumE
  rw [if_neg hn, if_neg hn]
  exact ⟨rfl, rfl⟩
theorem nn3 (a b c : Int) (h1 : 0 ≤ a) (h2 : 0 ≤ b) (h3 : 0 ≤ c) : nnB (pick3 a b c) 3 = true :=
  decide_eq_true fun k _ => by unfold pick3; (repeat' split) <;> omega
theorem tot3 (a b c : Int) : sumP (pick3 a b c) 3 = a + b + c := by simp [sumP, pick3]
theorem sum3_ok (a b c : Int) (h1 : 0 ≤ a) (h2 : 0 ≤ b) (h3 : 0 ≤ c) (h : a + b + c ≤ 9223372036854775807) : sumN (pick3 a b c) 3 = a + b + c ∧ sumE (pick3 a b c) 3 = 0 := by
  unfold sumN sumE
  rw [if_pos (nn3 a b c h1 h2 h3), if_pos (nn3 a b c h1 h2 h3), tot3, if_pos h, if_pos h]
  exact ⟨rfl, rfl⟩
theorem sum3_over (a b c : Int) (h1 : 0 ≤ a) (h2 : 0 ≤ b) (h3 : 0 ≤ c) (h : ¬ a + b + c ≤ 9223372036854775807) : sumN (pick3 a b c) 3 = 0 ∧ sumE (pick3 a b c) 3 = 20 := by
  unfold sumN sumE
  rw [if_pos (nn3 a b c h1 h2 h3), if_pos (nn3 a b c h1 h2 h3), tot3, if_neg h, if_neg h]
  exact ⟨rfl, rfl⟩
theorem sum3 (a b c N E : Int) (w : World) (bl : Nat) (a2 : a ≤ 9223372036854775807) (b2 : b ≤ 9223372036854775807) (c2 : c ≤ 9223372036854775807) (hbl : bl < w.heap.size)
    (q0 : w.cell? ⟨bl, 0, none⟩ = some (.int .i64 a)) (q1 : w.cell? ⟨bl, 1, none⟩ = some (.int .i64 b)) (q2 : w.cell? ⟨bl, 2, none⟩ = some (.int .i64 c)) (h : sumN (pick3 a b c) 3 = N ∧ sumE (pick3 a b c) 3 = E) :
    Calls Try.prog 14 #[.slice (some ⟨bl, 0, none⟩) 3 3] w fun e w' => e = .returned (.tuple #[.int .i64 N, .int .i64 E]) ∧ Below w.heap.size w w' := by
  rw [← h.1, ← h.2]
  refine sum_row bl 0 3 3 (pick3 a b c) w (by omega) hbl (fun k hk => ?_) (fun k _ => by unfold pick3; (repeat' split) <;> omega)
  match k, hk with
  | 0, _ => exact q0
  | 1, _ => exact q1
  | 2, _ => exact q2

/-- where the first two are no sum -/
theorem walk_no (a b c E : Int) (w : World) (h1 : addN a b = 0 ∧ addE a b = E) (h2 : addN b a = 0 ∧ addE b a = E) (hE : (E != 0) = true)
    (a1 : -9223372036854775808 ≤ a) (a2 : a ≤ 9223372036854775807) (b1 : -9223372036854775808 ≤ b) (b2 : b ≤ 9223372036854775807) :
    Calls Try.prog 5 #[.int .i64 a, .int .i64 b, .int .i64 c] w fun e w' => e = .returned (.bool true) ∧ Below w.heap.size w w' := by
  have H1 := hide (fun w => add_any a b w a1 a2 b1 b2)
  have H2 := hide (fun w => add_any b a w b1 b2 a1 a2)
  rw [h1.1, h1.2] at H1
  rw [h2.1, h2.2] at H2
  clear h1 h2
  go_enter Try.func5, Try.ntmps5
  go_wp2_with fail
  refine (H1.out _).mono ?_
  rintro e w1 ⟨rfl, hb1⟩
  have HB1 := hide hb1
  have z1 := hb1.size
  clear hb1
  go_wp2_with fail
  refine (H2.out _).mono ?_
  rintro e w2 ⟨rfl, hb2⟩
  have HB2 := hide (HB1.out.trans (hb2.mono z1))
  have z2 := hb2.size
  clear hb2
  go_wp2_with fail
  refine (lives_any _).mono ?_
  rintro e w3 ⟨rfl, hb3⟩
  have HB3 := hide (HB2.out.trans (hb3.mono (by omega)))
  clear hb3
  go_wp2
  go_ret
  exact ⟨rfl, HB3.out⟩

theorem walk_ok (a b c N E : Int) (w : World) (h1 : 0 ≤ a) (h2 : 0 ≤ b) (h : a + b ≤ 9223372036854775807) (a2 : a ≤ 9223372036854775807) (b2 : b ≤ 9223372036854775807) (c1 : -9223372036854775808 ≤ c) (c2 : c ≤ 9223372036854775807)
    (hs : sumN (pick3 a b c) 3 = N ∧ sumE (pick3 a b c) 3 = E) (ht : addN (a + b) c = N ∧ addE (a + b) c = E) :
    Calls Try.prog 5 #[.int .i64 a, .int .i64 b, .int .i64 c] w fun e w' => e = .returned (.bool true) ∧ Below w.heap.size w w' := by
  have H1 := hide (fun w => add_any a b w (by omega) a2 (by omega) b2)
  have H2 := hide (fun w => add_any b a w (by omega) b2 (by omega) a2)
  have H3 := hide (fun w => sub_any (a + b) b w (by omega) (by omega) (by omega) b2)
  have H4 := hide (fun w bl hbl q0 q1 q2 => sum3 a b c N E w bl a2 b2 c2 hbl q0 q1 q2 hs)
  have H5 := hide (fun w => add_any (a + b) c w (by omega) (by omega) c1 c2)
  rw [(addN_ok h1 h2 h).1, (addN_ok h1 h2 h).2] at H1
  rw [(addN_ok h2 h1 (by omega)).1, (addN_ok h2 h1 (by omega)).2, Int.add_comm b a] at H2
  rw [show subN (a + b) b = a by unfold subN; rw [if_neg (by omega), if_neg (by omega)]; omega, show subE (a + b) b = 0 by unfold subE; rw [if_neg (by omega), if_neg (by omega)]] at H3
  rw [ht.1, ht.2] at H5
  clear hs ht
  go_enter Try.func5, Try.ntmps5
  go_wp2_with fail
  refine (H1.out _).mono ?_
  rintro e w1 ⟨rfl, hb1⟩
  have HB1 := hide hb1
  have z1 := hb1.size
  clear hb1
  go_wp2_with fail
  refine (H2.out _).mono ?_
  rintro e w2 ⟨rfl, hb2⟩
  have HB2 := hide (HB1.out.trans (hb2.mono z1))
  have z2 := hb2.size
  clear hb2
  go_wp2_with fail
  refine (lives_any _).mono ?_
  rintro e w3 ⟨rfl, hb3⟩
  have HB3 := hide (HB2.out.trans (hb3.mono (by omega)))
  have z3 := hb3.size
  clear hb3
  go_wp2_with fail
  refine (H3.out _).mono ?_
  rintro e w4 ⟨rfl, hb4⟩
  have HB4 := hide (HB3.out.trans (hb4.mono (by omega)))
  have z4 := hb4.size
  clear hb4
  go_wp2_with fail
  refine (H4.out _ _ (by simp) (by simp) (by simp) (by simp)).mono ?_
  rintro e w5 ⟨rfl, hb5⟩
  have z5 : w4.heap.size < w5.heap.size := by have := hb5.size; simp at this; omega
  have HB5 := hide ((HB4.out.alloc (by omega) _).trans (hb5.mono (by simp; omega)))
  clear hb5
  go_wp2_with fail
  refine (H5.out _).mono ?_
  rintro e w6 ⟨rfl, hb6⟩
  have HB6 := hide (HB5.out.trans (hb6.mono (by omega)))
  clear hb6
  go_wp2
  go_ret
  exact ⟨by simp, HB6.out⟩

theorem walk (a b c : Int) (w : World) (w0 : (Lit.int .i64 a).wf = true) (w1 : (Lit.int .i64 b).wf = true) (w2 : (Lit.int .i64 c).wf = true) :
    Calls Try.prog 5 #[.int .i64 a, .int .i64 b, .int .i64 c] w fun e w' => e = .returned (.bool true) ∧ Below w.heap.size w w' := by
  obtain ⟨a1, a2⟩ := bounds_i64 w0
  obtain ⟨b1, b2⟩ := bounds_i64 w1
  obtain ⟨c1, c2⟩ := bounds_i64 w2
  by_cases hn : a < 0 ∨ b < 0
  · exact walk_no a b c 1 w (addN_neg hn) (addN_neg (by omega)) (by decide) a1 a2 b1 b2
  · by_cases ho : a + b ≤ 9223372036854775807
    · by_cases hc : c < 0
      · exact walk_ok a b c 0 1 w (by omega) (by omega) ho a2 b2 c1 c2 (sum3_neg a b c hc) (addN_neg (.inr hc))
      · by_cases ht : a + b + c ≤ 9223372036854775807
        · exact walk_ok a b c (a + b + c) 0 w (by omega) (by omega) ho a2 b2 c1 c2 (sum3_ok a b c (by omega) (by omega) (by omega) ht) (addN_ok (by omega) (by omega) ht)
        · exact walk_ok a b c 0 20 w (by omega) (by omega) ho a2 b2 c1 c2 (sum3_over a b c (by omega) (by omega) (by omega) ht) (addN_over (by omega) (by omega) (by omega))
    · exact walk_no a b c 20 w (addN_over (by omega) (by omega) (by omega)) (addN_over (by omega) (by omega) (by omega)) (by decide) a1 a2 b1 b2

theorem own : ownKnob Try.prog.godebug = none := by kernel_rfl
theorem laidOut : laidOutB Try.prog = true := by kernel_rfl

set_option maxRecDepth 100000 in
theorem lifted (os : Os) (started : os.Started) (H : Type) (enc : TypeId × Value → H) :
    ReturnsInHanded {} Try.checked os 5 .any (Rows.amountLawsSpec.pre6 enc Try.prog Try.f5 Rows.amountLawsRow.domain false) (Rows.amountLawsSpec.post enc Try.prog Try.f5 false true false false) := by
  refine returnsInHanded_of_change (C := Try.checked) own started (by kernel_rfl) Try.func5
    (ChangeSpec.witness6 (enc := enc) (C := Try.checked) false ⟨#[], #[.int .i64 0, .int .i64 0, .int .i64 0], []⟩ 8 (by kernel_rfl) (by kernel_rfl) (by kernel_rfl) (by kernel_rfl)) ?_
  intro W base args ds gs before hval0 hW hcnd _
  have hval : ∀ (j : Nat) t v, Try.f5.params[j]? = some t → args[j]? = some v → Value.okWide Try.prog W .any base t v := hval0
  have hW' := hW
  obtain ⟨p, q, hA0, hV, rfl, hfz, hnd⟩ := hW
  have hA : DataW.TrodAll enc Try.prog W 0 (fun _ => true) true Try.f5.params.toList args.toList ds p := hA0
  rw [Try.params5] at hA hval
  obtain ⟨v0, vs0, d0, ds0, p0, q0, hargs, rfl, rfl, h0, r0⟩ := trodAll_cons hA
  obtain ⟨v1, vs1, d1, ds1, p1, q1, rfl, rfl, rfl, h1, r1⟩ := trodAll_cons r0
  obtain ⟨v2, vs2, d2, ds2, p2, q2, rfl, rfl, rfl, h2, r2⟩ := trodAll_cons r1
  obtain ⟨rfl, rfl, rfl⟩ := trodAll_nil r2
  obtain rfl : args = #[v0, v1, v2] := by cases args; simp_all
  obtain ⟨rfl, rfl⟩ := trodVars_none hV
  have k0 := h0
  have lt0 : ∀ x ∈ p0, x.block < W.heap.size := by obtain ⟨m, hm⟩ := k0; exact DataW.trod_lt m _ _ _ hm
  have k1 := h1
  have lt1 : ∀ x ∈ p1, x.block < W.heap.size := by obtain ⟨m, hm⟩ := k1; exact DataW.trod_lt m _ _ _ hm
  have k2 := h2
  have lt2 : ∀ x ∈ p2, x.block < W.heap.size := by obtain ⟨m, hm⟩ := k2; exact DataW.trod_lt m _ _ _ hm
  obtain ⟨a0, rfl, rfl, rfl, w0⟩ := open_int Try.underlying3 (hval 0 3 v0 rfl rfl) h0
  obtain ⟨a1, rfl, rfl, rfl, w1⟩ := open_int Try.underlying3 (hval 1 3 v1 rfl rfl) h1
  obtain ⟨a2, rfl, rfl, rfl, w2⟩ := open_int Try.underlying3 (hval 2 3 v2 rfl rfl) h2
  clear hA0 hval0
  refine (walk a0 a1 a2 W w0 w1 w2).mono fun e W' ⟨he, bel⟩ => ?_
  subst he
  exact ⟨_, rfl, _, _, _, [], _, [], hW', trodAll_mk1 (shut_bool Try.underlying4 _), (trodAll_cons_mk (Below.trod laidOut (by kernel_rfl) (of_decide_eq_true (by kernel_rfl)) k0 bel lt0) (trodAll_cons_mk (Below.trod laidOut (by kernel_rfl) (of_decide_eq_true (by kernel_rfl)) k1 bel lt1) (trodAll_cons_mk (Below.trod laidOut (by kernel_rfl) (of_decide_eq_true (by kernel_rfl)) k2 bel lt2) trodAll_mk0))), rfl, bel.frame _, fun h => by cases h⟩

theorem over : Rows.amountLawsRow.holds Try.pinned (OpenSpec.ofChange Rows.amountLawsSpec) :=
  OpenClaim.holds_of_wide 5 Try.f5 rfl rfl rfl rfl rfl rfl rfl ⟨rfl, rfl, rfl, rfl, rfl⟩ rfl rfl rfl rfl rfl (by kernel_rfl) Try.func5 (by kernel_rfl)
    (of_decide_eq_true (by kernel_rfl)) (by unfold Func.isWrapper; first | (rw [if_pos (by decide +kernel)]; kernel_rfl) | (rw [if_neg (by decide +kernel)]; exact ⟨rfl, rfl⟩))
    (fun os started H enc _ => lifted os started H enc)

theorem proved : Rows.AmountLawsSaid := over
end Go.Proofs.Ytclimopeejkdbac.amountLaws
namespace Go.Proofs.Ytclimopeejkdbac
theorem amountLaws_holds : Rows.AmountLawsSaid := amountLaws.proved
end Go.Proofs.Ytclimopeejkdbac
