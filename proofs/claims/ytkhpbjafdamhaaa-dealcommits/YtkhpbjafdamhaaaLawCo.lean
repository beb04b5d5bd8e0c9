/- Proved: for all terms, holders, points and views the statement DealCommits (P14.1, P14.2: the commitment of any terms, holder, point and view; the view stays as it was) returns true over the code at the commit, and changes none of its arguments. No condition. -/
import Derived.Test.YtkhpbjafdamhaaaDOpenC
namespace Go.Proofs.Ytkhpbjafdamhaaa.dealCommits
open Go.ChangeShapes Go.WideShapes Go.ChangeAt Go.RowKit
set_option linter.unusedVariables false
set_option linter.unusedSimpArgs false
theorem own : ownKnob Try.prog.godebug = none := by kernel_rfl
theorem laidOut : laidOutB Try.prog = true := by kernel_rfl

set_option maxRecDepth 100000 in
theorem lifted (os : Os) (started : os.Started) (H : Type) (enc : TypeId × Value → H) :
    ReturnsInHanded {} Try.checked os 3 .any (Rows.dealCommitsSpec.pre6 enc Try.prog Try.f3 Rows.dealCommitsRow.domain false) (Rows.dealCommitsSpec.post enc Try.prog Try.f3 false true false false) := by
  refine returnsInHanded_of_change_sized (C := Try.checked) own started (by kernel_rfl) Try.func3
    (ChangeSpec.witness6 (enc := enc) (C := Try.checked) false ⟨#[], #[.agg Z43, .int .i64 0, .agg Z32, .agg #[.int .i64 0, .int .i64 0, .slice none 0 0]], []⟩ 8 (by kernel_rfl) (by kernel_rfl) (by kernel_rfl) (by kernel_rfl)) ?_
  intro W base args ds gs before hval0 hW hcnd hsz0 _
  have hsz : (DataW.weightsEach Try.prog (Try.f3.params.toList ++ Rows.dealCommitsSpec.plain.varTypes Try.prog) (ds ++ gs)).all (· ≤ reachBytes) = true := hsz0
  have hval : ∀ (j : Nat) t v, Try.f3.params[j]? = some t → args[j]? = some v → Value.okWide Try.prog W .any base t v := hval0
  have hW' := hW
  obtain ⟨p, q, hA0, hV, rfl, hfz, hnd⟩ := hW
  have hA : DataW.TrodAll enc Try.prog W 0 (fun _ => true) true Try.f3.params.toList args.toList ds p := hA0
  rw [Try.params3] at hA hval hsz; obtain ⟨v0, vs0, d0, ds0, p0, q0, hargs, rfl, rfl, h0, r0⟩ := trodAll_cons hA; obtain ⟨v1, vs1, d1, ds1, p1, q1, rfl, rfl, rfl, h1, r1⟩ := trodAll_cons r0; obtain ⟨v2, vs2, d2, ds2, p2, q2, rfl, rfl, rfl, h2, r2⟩ := trodAll_cons r1; obtain ⟨v3, vs3, d3, ds3, p3, q3, rfl, rfl, rfl, h3, r3⟩ := trodAll_cons r2; obtain ⟨rfl, rfl, rfl⟩ := trodAll_nil r3
  obtain rfl : args = #[v0, v1, v2, v3] := by cases args; simp_all
  obtain ⟨rfl, rfl⟩ := trodVars_none hV; have k0 := h0
  have lt0 : ∀ x ∈ p0, x.block < W.heap.size := by obtain ⟨m, hm⟩ := k0; exact DataW.trod_lt m _ _ _ hm
  have k1 := h1
  have lt1 : ∀ x ∈ p1, x.block < W.heap.size := by obtain ⟨m, hm⟩ := k1; exact DataW.trod_lt m _ _ _ hm
  have k2 := h2
  have lt2 : ∀ x ∈ p2, x.block < W.heap.size := by obtain ⟨m, hm⟩ := k2; exact DataW.trod_lt m _ _ _ hm
  have k3 := h3
  have lt3 : ∀ x ∈ p3, x.block < W.heap.size := by obtain ⟨m, hm⟩ := k3; exact DataW.trod_lt m _ _ _ hm
  obtain ⟨cs0, rfl, hcl0⟩ := okWide_struct Try.underlying26 (hval 0 26 v0 rfl rfl)
  obtain ⟨t0, hT0, hb0⟩ : ∃ t, IsT cs0 t ∧ TB t := by
    obtain ⟨fuel, hf⟩ := h0; obtain ⟨t, h1, h2⟩ := open_terms hf; exact ⟨t, by simpa [Value.cells] using h1, h2⟩
  obtain ⟨l0, fo0, ex0, hl0⟩ : ∃ (l : List Int) (fo : Int), cs0.extract 3 36 = (U8 l ++ [Value.int .i64 fo]).toArray ∧ l.length = 32 := by
    obtain ⟨fuel, hf⟩ := h0; obtain ⟨l, fo, h1, h2⟩ := open_termsC hf; exact ⟨l, fo, by simpa [Value.cells] using h1, h2⟩
  obtain ⟨a1, rfl, rfl, rfl, w1⟩ := open_int Try.underlying3 (hval 1 3 v1 rfl rfl) h1; obtain ⟨cs2, rfl, hcl2⟩ := okWide_array Try.underlying22 (hval 2 22 v2 rfl rfl)
  obtain ⟨l2, e2, hl2⟩ : ∃ l : List Int, cs2 = (U8 l).toArray ∧ l.length = 32 := by
    obtain ⟨fuel, hf⟩ := h2; obtain ⟨l, h1, h2⟩ := open_arr hf; exact ⟨l, by have := congrArg List.toArray h1; simpa [Value.cells] using this, h2⟩
  subst e2; obtain ⟨cs3, rfl, hcl3⟩ := okWide_struct Try.underlying29 (hval 3 29 v3 rfl rfl)
  obtain ⟨x3, y3, ao3, n3, c3, Cs3, hv3, e3, hx3, hy3, hn3, hH3, hz3, hn64, hnil3⟩ : ∃ (a b : Int) (ao : Option Addr) (n c : Nat) (Cs : Nat → Array Value) (hv : Nat → HV), cs3 = #[.int .i64 a, .int .i64 b, .slice ao n c] ∧ a ≤ 9223372036854775807 ∧ b ≤ 9223372036854775807 ∧ n ≤ 140737488355328 ∧ Hs W ao n Cs hv ∧ (∀ i, i < n → (hv i).am ≤ 9223372036854775807) ∧ n * 64 ≤ 140737488355328 ∧ (ao = none → n = 0 ∧ c = 0) := by
    obtain ⟨fuel, hf⟩ := h3
    obtain ⟨a, b, ao, n, c, Cs, hv, h1, h2⟩ := open_viewC hf (fun m hm => by
      have := List.all_eq_true.1 hsz _ (DataW.weights_mem_each (j := 3) (t := 29) rfl rfl m hm)
      simpa using this)
    exact ⟨a, b, ao, n, c, Cs, hv, by have := congrArg List.toArray h1; simpa [Value.cells] using this, h2⟩
  subst e3; clear hA0 hval0 hsz0 hsz; refine (commits_any W hT0 hb0 hl2 hH3 hnil3 hn64 hx3 hy3 hz3 (by rw [ex0]; exact isI_in _ hl0) (by rw [ex0]; exact refl24 _ hl0)).mono fun e W' ⟨he, bel⟩ => ?_; subst he
  exact ⟨_, rfl, _, _, _, [], _, [], hW', trodAll_mk1 (shut_bool Try.underlying4 _), (trodAll_cons_mk (Below.trod laidOut (by kernel_rfl) (of_decide_eq_true (by kernel_rfl)) k0 bel lt0) (trodAll_cons_mk (Below.trod laidOut (by kernel_rfl) (of_decide_eq_true (by kernel_rfl)) k1 bel lt1) (trodAll_cons_mk (Below.trod laidOut (by kernel_rfl) (of_decide_eq_true (by kernel_rfl)) k2 bel lt2) (trodAll_cons_mk (Below.trod laidOut (by kernel_rfl) (of_decide_eq_true (by kernel_rfl)) k3 bel lt3) trodAll_mk0)))), rfl, bel.frame _, fun h => by cases h⟩

theorem over : Rows.dealCommitsRow.holds Try.pinned (OpenSpec.ofChange Rows.dealCommitsSpec) :=
  OpenClaim.holds_of_wide 3 Try.f3 rfl rfl rfl rfl rfl rfl rfl ⟨rfl, rfl, rfl, rfl, rfl⟩ rfl rfl rfl rfl rfl (by kernel_rfl) Try.func3 (by kernel_rfl)
    (of_decide_eq_true (by kernel_rfl)) (by unfold Func.isWrapper; first | (rw [if_pos (by decide +kernel)]; kernel_rfl) | (rw [if_neg (by decide +kernel)]; exact ⟨rfl, rfl⟩))
    (fun os started H enc _ => lifted os started H enc)

theorem proved : Rows.DealCommitsSaid := over
end Go.Proofs.Ytkhpbjafdamhaaa.dealCommits
namespace Go.Proofs.Ytkhpbjafdamhaaa
theorem dealCommits_holds : Rows.DealCommitsSaid := dealCommits.proved
end Go.Proofs.Ytkhpbjafdamhaaa
