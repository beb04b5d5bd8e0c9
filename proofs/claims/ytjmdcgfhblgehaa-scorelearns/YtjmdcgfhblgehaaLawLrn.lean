/- For every past and lists of amounts and ticks, score's Learn makes of it what the document's does: ScoreLearns returns true. No condition beyond the statement's own. -/
import Derived.Test.YtjmdcgfhblgehaaSOpen
namespace Go.Proofs.Ytjmdcgfhblgehaa.scoreLearns
open Go.ChangeShapes Go.WideShapes Go.ChangeAt Go.RowKit
set_option linter.unusedVariables false
set_option linter.unusedSimpArgs false
theorem own : ownKnob Try.prog.godebug = none := by kernel_rfl
theorem laidOut : laidOutB Try.prog = true := by kernel_rfl

set_option maxRecDepth 100000 in
theorem lifted (os : Os) (started : os.Started) (H : Type) (enc : TypeId × Value → H) :
    ReturnsInHanded {} Try.checked os 5 .any (Rows.scoreLearnsSpec.pre6 enc Try.prog Try.f5 Rows.scoreLearnsRow.domain false) (Rows.scoreLearnsSpec.post enc Try.prog Try.f5 false true false false) := by
  refine returnsInHanded_of_change_sized (C := Try.checked) own started (by kernel_rfl) Try.func5
    (ChangeSpec.witness6 (enc := enc) (C := Try.checked) false ⟨#[], #[.agg (PL ⟨0, 0, 0, 0⟩), .slice none 0 0, .slice none 0 0], []⟩ 8 (by kernel_rfl) (by kernel_rfl) (by kernel_rfl) (by kernel_rfl)) ?_
  intro W base args ds gs before hval0 hW hcnd hsz0 _
  have hsz : (DataW.weightsEach Try.prog (Try.f5.params.toList ++ Rows.scoreLearnsSpec.plain.varTypes Try.prog) (ds ++ gs)).all (· ≤ reachBytes) = true := hsz0
  have hval : ∀ (j : Nat) t v, Try.f5.params[j]? = some t → args[j]? = some v → Value.okWide Try.prog W .any base t v := hval0
  have hW' := hW
  obtain ⟨p, q, hA0, hV, rfl, hfz, hnd⟩ := hW
  have hA : DataW.TrodAll enc Try.prog W 0 (fun _ => true) true Try.f5.params.toList args.toList ds p := hA0
  rw [Try.params5] at hA hval hsz
  obtain ⟨v0, vs0, d0, ds0, p0, q0, hargs, rfl, rfl, h0, r0⟩ := trodAll_cons hA
  obtain ⟨v1, vs1, d1, ds1, p1, q1, rfl, rfl, rfl, h1, r1⟩ := trodAll_cons r0
  obtain ⟨v2, vs2, d2, ds2, p2, q2, rfl, rfl, rfl, h2, r2⟩ := trodAll_cons r1
  obtain ⟨rfl, rfl, rfl⟩ := trodAll_nil r2
  obtain rfl : args = #[v0, v1, v2] := by cases args; simp_all
  obtain ⟨rfl, rfl⟩ := trodVars_none hV
  have k0 := h0
  have lt0 : ∀ x ∈ p0, x.block < W.heap.size := by obtain ⟨m, hm⟩ := k0; exact DataW.trod_lt m _ _ _ hm
  have k1 := h1
  have lt1 : ∀ x ∈ p1, x.block < W.heap.size := by obtain ⟨m, hm⟩ := k1; exact DataW.trod_lt m _ _ _ hm
  have k2 := h2
  have lt2 : ∀ x ∈ p2, x.block < W.heap.size := by obtain ⟨m, hm⟩ := k2; exact DataW.trod_lt m _ _ _ hm
  obtain ⟨cs0, rfl, hcl0⟩ := okWide_struct Try.underlying23 (hval 0 23 v0 rfl rfl)
  obtain ⟨p0_, e0, hb0⟩ : ∃ p, cs0 = PL p ∧ PB p := by
    obtain ⟨fuel, hf⟩ := h0
    obtain ⟨q, h1, h2⟩ := open_past hf
    exact ⟨q, by have := congrArg List.toArray h1; simpa [Value.cells] using this, h2⟩
  subst e0
  obtain ⟨a1, len1, cap1, rfl⟩ := okWide_slice Try.underlying37 (hval 1 37 v1 rfl rfl)
  obtain ⟨hn1, z1, hF1, hz1⟩ : len1 ≤ 140737488355328 ∧ ∃ z : Nat → Int, Ns W a1 len1 z ∧ ∀ i, i < len1 → (-9223372036854775808 ≤ z i ∧ z i ≤ 9223372036854775807) := by
    obtain ⟨fuel, hf⟩ := h1
    exact open_ints_ (by simpa [Value.cells] using hf) (fun m hm => by
      have := List.all_eq_true.1 hsz _ (DataW.weights_mem_each (j := 1) (t := 37) rfl rfl m hm)
      simpa using this)
  obtain ⟨a2, len2, cap2, rfl⟩ := okWide_slice Try.underlying37 (hval 2 37 v2 rfl rfl)
  obtain ⟨hn2, z2, hF2, hz2⟩ : len2 ≤ 140737488355328 ∧ ∃ z : Nat → Int, Ns W a2 len2 z ∧ ∀ i, i < len2 → (-9223372036854775808 ≤ z i ∧ z i ≤ 9223372036854775807) := by
    obtain ⟨fuel, hf⟩ := h2
    exact open_ints_ (by simpa [Value.cells] using hf) (fun m hm => by
      have := List.all_eq_true.1 hsz _ (DataW.weights_mem_each (j := 2) (t := 37) rfl rfl m hm)
      simpa using this)
  clear hA0 hval0 hsz0 hsz
  refine (learns_any W hF1 hF2 hn1 hz1).mono fun e W' ⟨he, bel⟩ => ?_
  subst he
  exact ⟨_, rfl, _, _, _, [], _, [], hW', trodAll_mk1 (shut_bool Try.underlying4 _), (trodAll_cons_mk (Below.trod laidOut (by kernel_rfl) (of_decide_eq_true (by kernel_rfl)) k0 bel lt0) (trodAll_cons_mk (Below.trod laidOut (by kernel_rfl) (of_decide_eq_true (by kernel_rfl)) k1 bel lt1) (trodAll_cons_mk (Below.trod laidOut (by kernel_rfl) (of_decide_eq_true (by kernel_rfl)) k2 bel lt2) trodAll_mk0))), rfl, bel.frame _, fun h => by cases h⟩

theorem over : Rows.scoreLearnsRow.holds Try.pinned (OpenSpec.ofChange Rows.scoreLearnsSpec) :=
  OpenClaim.holds_of_wide 5 Try.f5 rfl rfl rfl rfl rfl rfl rfl ⟨rfl, rfl, rfl, rfl, rfl⟩ rfl rfl rfl rfl rfl (by kernel_rfl) Try.func5 (by kernel_rfl)
    (of_decide_eq_true (by kernel_rfl)) (by unfold Func.isWrapper; first | (rw [if_pos (by decide +kernel)]; kernel_rfl) | (rw [if_neg (by decide +kernel)]; exact ⟨rfl, rfl⟩))
    (fun os started H enc _ => lifted os started H enc)

theorem proved : Rows.ScoreLearnsSaid := over
end Go.Proofs.Ytjmdcgfhblgehaa.scoreLearns
namespace Go.Proofs.Ytjmdcgfhblgehaa
theorem scoreLearns_holds : Rows.ScoreLearnsSaid := scoreLearns.proved
end Go.Proofs.Ytjmdcgfhblgehaa
